import Derived.Test.YtkkiiffhfjkoaaaGreatDoorPs17
import Derived.Test.YtkkiiffhfjkoaaaGreatDoorT11
namespace Go.Proofs.YtkkiiffhfjkoaaaGreatDoor
open Go.RowKit Go.Sort
set_option linter.unusedVariables false
attribute [local go_sem ↓] Go.wp_at_zero Go.wp_at_succ

/-- What PrintSystem answers. -/
def prT (sg : Int) (os : List ObD) (ts : List (Int × Int)) : List UInt8 := if (sysFault sg os ts).1 = 0 then sysT sg os ts else []
theorem own_nilB (w : World) (B : Nat) : w.ownsRow B 5 1 (.slice none 0 0) ([] : List UInt8).length (Lib.byteCells []) := ⟨rfl, .inl ⟨rfl, rfl⟩⟩
theorem pen_new (w : World) (B : Nat) (hB : B ≤ w.heap.size) : PenAt (w.alloc (.cells #[.pointer none, .slice none 0 0, .bool false] 69)) B w.heap.size [] false :=
  .inl ⟨hB, _, heap_alloc_new w _, own_nilB _ _, by simp [Value.ownBlock]⟩

set_option maxRecDepth 100000 in
set_option maxHeartbeats 1600000 in
theorem specPrint_any (sg : Int) (eo xo : Option Addr) (en ec xn xc : Nat) (os : List ObD) (ts : List (Int × Int)) (w : World) (hen : en ≤ 9223372036854775807) (hec : en ≤ ec) (hxn : xn ≤ 9223372036854775807) (hf : FitsObs os) (hv : ∀ i, i < os.length → ∀ j, j < (os.getD i ob0).vals.length → I64 ((os.getD i ob0).vals.getD j 0)) (he : ObsOf w eo en os) (hx : ItemsOf w xo xn ts) :
    Calls Tryz.prog 5 #[.agg #[.int .i64 sg, .slice eo en ec, .slice xo xn xc]] w fun e w' => e = .returned (tx (prT sg os ts)) ∧ Below w.heap.size w w' := by
  unfold prT
  by_cases h0 : (sysFault sg os ts).1 = 0
  · rw [if_pos h0]
    exact specPrint_yes sg eo xo en ec xn xc os ts w hen hec hxn h0 (sysOK_of hf hv h0) he hx
  · rw [if_neg h0]
    have B0 := below1 w (.cells #[.int .i64 sg, .slice eo en ec, .slice xo xn xc] 31)
    have CS := hid (l4SystemOK_any sg eo xo en ec xn xc os ts _ hen hec hxn (he.below B0) (hx.below B0))
    rw [decide_eq_false h0] at CS
    have BB := hid B0
    clear he hx B0 h0 hf hv
    go_enter Tryz.func5, Tryz.ntmps5
    go_wp2_with (go_at_call 11; refine CS.out.mono ?_; rintro e w1 ⟨rfl, hb1⟩; have B1 := hid (BB.out.trans (hb1.mono BB.out.size)); clear hb1)
    go_ret
    exact ⟨rfl, B1.out⟩

set_option maxRecDepth 100000 in
set_option maxHeartbeats 1600000 in
theorem implPrint_any (sg : Int) (eo xo : Option Addr) (en ec xn xc : Nat) (os : List ObD) (ts : List (Int × Int)) (w : World) (hen : en ≤ 9223372036854775807) (hec : en ≤ ec) (hxn : xn ≤ 9223372036854775807) (hf : FitsObs os) (hv : ∀ i, i < os.length → ∀ j, j < (os.getD i ob0).vals.length → I64 ((os.getD i ob0).vals.getD j 0)) (he : ObsOf w eo en os) (hx : ItemsOf w xo xn ts) (hT : Tabs w w.heap.size) :
    Calls Tryz.prog 7 #[.agg #[.int .i64 sg, .slice eo en ec, .slice xo xn xc]] w fun e w' => e = .returned (tx (prT sg os ts)) ∧ Below w.heap.size w w' := by
  have B0 := below1 w (.cells #[.int .i64 sg, .slice eo en ec, .slice xo xn xc] 31)
  have X0 := hid (heap_alloc_new w (.cells #[.int .i64 sg, .slice eo en ec, .slice xo xn xc] 31))
  have CS := hid (implSystem_any sg eo xo en ec xn xc os ts _ hen hec hxn (he.below B0) (hx.below B0))
  have BB := hid B0
  obtain ⟨f1, h1⟩ : ∃ f, f = (sysFault sg os ts).2.1 := ⟨_, rfl⟩
  obtain ⟨f2, h2⟩ : ∃ f, f = (sysFault sg os ts).2.2 := ⟨_, rfl⟩
  obtain ⟨f0, h00⟩ : ∃ f, f = (sysFault sg os ts).1 := ⟨_, rfl⟩
  rw [← h1, ← h2, ← h00] at CS
  by_cases h0 : f0 = 0
  · have hz : (sysFault sg os ts).1 = 0 := by rw [← h00]; exact h0
    subst h0
    have ET : Hid (prT sg os ts = sysT sg os ts) := hid (if_pos hz)
    have HO := hid (sysOK_of hf hv hz)
    have hne : sysT sg os ts ≠ [] := by simp [sysT]
    have HN := hid hne
    have HE := hid he
    have HX := hid hx
    have HT := hid hT
    clear h1 h2 h00 hz hf hv he hx hT B0 hne
    go_enter Tryz.func7, Tryz.ntmps7
    go_upto_region 4 with (go_at_call 18; refine CS.out.mono ?_; rintro e w1 ⟨rfl, hb1⟩; have B1 := hid (BB.out.trans (hb1.mono BB.out.size)); have X1 := hid (block_below X0.out hb1); clear hb1)
    have B2 := hid (B1.out.trans ((below1 w1 (.cells #[.pointer none, .slice none 0 0, .bool false] 69)).mono B1.out.size))
    have X2 := hid (block_below X1.out (below1 w1 (.cells #[.pointer none, .slice none 0 0, .bool false] 69)))
    have P2 := hid (pen_new w1 w.heap.size B1.out.size)
    have C2 := hid (system_pen w w1.heap.size sg eo xo en ec xn xc os ts _ HO.out HE.out HX.out B2.out (HT.out.below B2.out) P2.out)
    have C3 := hid (fun (w3 : World) (h3 : PenAt w3 w.heap.size w1.heap.size (sysT sg os ts) false) => string_pen w.heap.size w1.heap.size (sysT sg os ts) false w3 h3 HN.out)
    obtain ⟨d0, d1, d2⟩ := three_cells X2.out
    go_wp2_with (first
      | (go_at_call 19; with_reducible refine C2.out.mono ?_; rintro e w3 ⟨rfl, h3, k3⟩; have H3 := hid h3; have K3 := hid (B2.out.trans k3.bel); clear h3 k3)
      | (go_at_call 20; with_reducible refine (C3.out w3 H3.out).mono ?_; rintro e w4 ⟨rfl, hb4⟩; have B4 := hid (K3.out.trans hb4); clear hb4))
    go_ret
    exact ⟨by rw [ET.out]; rfl, B4.out⟩
  · have hz : ¬ (sysFault sg os ts).1 = 0 := by rw [← h00]; exact h0
    have ET : Hid (prT sg os ts = []) := hid (if_neg hz)
    have h0' : (f0 == 0) = false := by simpa using h0
    clear h1 h2 h00 hz hf hv he hx hT B0
    go_enter Tryz.func7, Tryz.ntmps7
    go_wp2_with (go_at_call 18; refine CS.out.mono ?_; rintro e w1 ⟨rfl, hb1⟩; have B1 := hid (BB.out.trans (hb1.mono BB.out.size)); clear hb1)
    go_ret
    exact ⟨by rw [ET.out]; rfl, B1.out⟩
end Go.Proofs.YtkkiiffhfjkoaaaGreatDoor
