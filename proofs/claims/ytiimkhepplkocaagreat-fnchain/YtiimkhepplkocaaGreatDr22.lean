import Derived.Test.YtiimkhepplkocaaGreatDr19
import Derived.Test.YtiimkhepplkocaaGreatDg
import Derived.Deep.RegionHeld3
import Derived.OrdersHeld
namespace Go.Proofs.YtiimkhepplkocaaGreat
open Go.RowKit Go.Sort
set_option linter.unusedVariables false
attribute [local go_sem ↓] Go.wp_at_zero Go.wp_at_succ
theorem SysV.draw {cb : Nat} {co : Option Addr} {n cap A B : Nat} {X Y : World} {y : SysD} {ov tv : Value} (h : SysV X B y ov tv) (hd : Dw cb X Y) (hc : Cur X cb co n cap A) (h0 : cb < B) : SysV Y B y ov tv := by
 obtain ⟨R, h1, h2⟩ := h.o
 exact ⟨⟨R, hd.own hc h1 (by decide), h2.keep hd (far_cb h0)⟩, hd.own hc h.t (by decide)⟩
theorem SysV.below {B : Nat} {X Y : World} {y : SysD} {ov tv : Value} (h : SysV X B y ov tv) (hb : Below X.heap.size X Y) : SysV Y B y ov tv := by
 obtain ⟨R, h1, h2⟩ := h.o
 exact ⟨⟨R, ownsRow_below h1 hb, h2.keep (Below.toP (P := fun _ => False) hb) far_none⟩, ownsRow_below h.t hb⟩
theorem SysV.base {B C : Nat} {X : World} {y : SysD} {ov tv : Value} (h : SysV X B y ov tv) (hb : C ≤ B) : SysV X C y ov tv := by
 obtain ⟨R, h1, h2⟩ := h.o
 exact ⟨⟨R, ownsRow_base h1 hb, h2.base hb⟩, ownsRow_base h.t hb⟩
theorem SysV.set {B H o : Nat} {X : World} {y : SysD} {ov tv u : Value} {cs : Array Value} (h : SysV X B y ov tv) (hb : X.heap[H]? = some (.cells cs 26 (0, 0))) : SysV (X.setCell ⟨H, o, none⟩ u) B y ov tv := by
 obtain ⟨R, h1, h2⟩ := h.o
 exact ⟨⟨R, set_own hb h1 (by decide), h2.keep (OnlyP.set (P := fun q => q = H) _ rfl) (far_box hb kt_sys)⟩, set_own hb h.t (by decide)⟩
def ScrEd (w w' : World) (e : Ending) : Prop := ∃ (y : SysD) (ov tv iv : Value) (its : List ItD), e = .returned (.tuple #[.agg #[.int .i64 (y.sg : Int), ov, tv], iv]) ∧ SysV w' w.heap.size y ov tv ∧ SysOk y ∧ w'.ownsRow w.heap.size 70 4 iv its.length (itCells its) ∧ its.length ≤ 20 ∧ (∀ x, x ∈ its → ItOk y.ds.length y.sg x) ∧ Below w.heap.size w w'
theorem cur_new {w : World} {co : Option Addr} {n cap : Nat} {o : Obj} (hn : n ≤ 1048576) (h : BytesAt w co n) : Cur ((w.alloc o).alloc (.cells #[.slice co n cap, .int .i64 0, .int .i64 0, .int .i64 0] 97)) (w.heap.size + 1) co n cap 0 := by
 have hb := below2 w o (.cells #[.slice co n cap, .int .i64 0, .int .i64 0, .int .i64 0] 97)
 have h2 := heap_alloc_new (w.alloc o) (.cells #[.slice co n cap, .int .i64 0, .int .i64 0, .int .i64 0] 97)
 rw [World.size_alloc] at h2
 refine ⟨⟨0, 0, 0, h2, by omega, by omega, by omega, by omega⟩, h.only (Below.toP (P := fun _ => False) hb) (fun _ _ _ _ e => e), fun h0 g o' e => ?_, hn⟩
 obtain ⟨g', o2, e2, hl, _⟩ := h h0
 rw [e] at e2
 simp at e2
 omega
theorem dw_below {cb : Nat} {w X Y : World} (h : Below w.heap.size w X) (hd : Dw cb X Y) (hc : w.heap.size ≤ cb) : Below w.heap.size w Y := by
 refine h.trans ?_
 exact ⟨hd.os, hd.tape, hd.output, hd.size, fun q hq => hd.block q (Nat.lt_of_lt_of_le hq h.size) (by omega)⟩
theorem keep3 {X : World} {H HS : Nat} {a b c p q r : Value} {t : TypeId} (hne : HS ≠ H) (h : X.heap[HS]? = some (.cells #[p, q, r] t (0, 0))) : (((X.setCell ⟨H, 0, none⟩ a).setCell ⟨H, 1, none⟩ b).setCell ⟨H, 2, none⟩ c).cell? ⟨HS, 0, none⟩ = some p ∧ (((X.setCell ⟨H, 0, none⟩ a).setCell ⟨H, 1, none⟩ b).setCell ⟨H, 2, none⟩ c).cell? ⟨HS, 1, none⟩ = some q ∧ (((X.setCell ⟨H, 0, none⟩ a).setCell ⟨H, 1, none⟩ b).setCell ⟨H, 2, none⟩ c).cell? ⟨HS, 2, none⟩ = some r := by
 obtain ⟨h0, h1, h2, _⟩ := tcell3 h
 refine ⟨?_, ?_, ?_⟩
 ·rw [cell_far hne, cell_far hne, cell_far hne]; exact h0
 ·rw [cell_far hne, cell_far hne, cell_far hne]; exact h1
 ·rw [cell_far hne, cell_far hne, cell_far hne]; exact h2
theorem scr_end {w X : World} {y : SysD} {ov tv iv : Value} {its : List ItD} {B : Nat} (hr : X.heap[w.heap.size]? = some (.cells #[.int .i64 0, .slice none 0 0, .slice none 0 0] 26 (0, 0))) (hv : SysV X (w.heap.size + 1 + 1) y ov tv) (hy : SysOk y) (ho : X.ownsRow B 70 4 iv its.length (itCells its)) (hB : w.heap.size ≤ B) (hl : its.length ≤ 20) (hk : ∀ x, x ∈ its → ItOk y.ds.length y.sg x) (hb : Below w.heap.size w X) : ScrEd w (((X.setCell ⟨w.heap.size, 0, none⟩ (.int .i64 (y.sg : Int))).setCell ⟨w.heap.size, 1, none⟩ ov).setCell ⟨w.heap.size, 2, none⟩ tv) (.returned (.tuple #[.agg #[.int .i64 (y.sg : Int), ov, tv], iv])) := by
 have m1 := heap_setCell_same X w.heap.size 0 _ _ (.int .i64 (y.sg : Int)) hr
 have m2 := heap_setCell_same _ w.heap.size 1 _ _ ov m1
 exact ⟨y, ov, tv, iv, its, rfl, (((hv.set hr).set m1).set m2).base (by omega), hy, ownsRow_base (set_own m2 (set_own m1 (set_own hr ho (by decide)) (by decide)) (by decide)) hB, hl, hk, below_set (below_set (below_set hb (Nat.le_refl _)) (Nat.le_refl _)) (Nat.le_refl _)⟩
set_option maxRecDepth 100000 in
set_option maxHeartbeats 16000000 in
theorem drawScripted_any (co : Option Addr) (n cap : Nat) (hn : n ≤ 1048576) (w : World) (h : BytesAt w co n) :
  Calls Tryz.prog 8 #[.slice co n cap] w fun e w' => ScrEd w w' e := by
 have C0 := hid (cur_new (cap := cap) (o := .cells #[.int .i64 0, .slice none 0 0, .slice none 0 0] 26) hn h)
 have R0 : Hid (((w.alloc (.cells #[.int .i64 0, .slice none 0 0, .slice none 0 0] 26)).alloc (.cells #[.slice co n cap, .int .i64 0, .int .i64 0, .int .i64 0] 97)).heap[w.heap.size]? = some (.cells #[.int .i64 0, .slice none 0 0, .slice none 0 0] 26 (0, 0))) := hid (block_below (heap_alloc_new w _) (below1 _ _))
 have B0 := hid (below2 w (.cells #[.int .i64 0, .slice none 0 0, .slice none 0 0] 26) (.cells #[.slice co n cap, .int .i64 0, .int .i64 0, .int .i64 0] 97))
 have DS := hid (drawSystem_any (w.heap.size + 1) co n cap 0 _ (by omega) C0.out)
 have DI := hid (fun A (sg m oc : Nat) oa tv htv hsg hm w' hA h' => drawItems_any (w.heap.size + 1) co n cap A sg m oc oa tv htv hsg hm w' hA h')
 clear h
 go_enter Tryz.func8, Tryz.ntmps8
 go_upto_region 3 with (go_at_call 41; have q := DS.out; with_reducible refine q.mono ?_; clear q; intro e w3 hq; unfold SysEd at hq; obtain ⟨y, ov, tv, rfl, hv, hok, hc, hd⟩ := hq; obtain ⟨R, hR, _⟩ := hv.o; obtain ⟨oa, oc, ho⟩ := own_any hR; subst ho; obtain ⟨ta, tc, ht⟩ := own_any hv.t; subst ht; have C3 := hid hc; have D3 := hid hd; have V3 := hid hv; have OK := hid hok; clear hv hok hc hd hR)
 obtain ⟨W, hW⟩ : ∃ W, W = w3.alloc (.cells #[.int .i64 (y.sg : Int), .slice oa y.ds.length oc, .slice ta y.tms.length tc] 26) := ⟨_, rfl⟩
 have bW : Below w3.heap.size w3 W := by rw [hW]; exact below1 _ _
 have SW : Hid (W.heap[w3.heap.size]? = some (.cells #[.int .i64 (y.sg : Int), .slice oa y.ds.length oc, .slice ta y.tms.length tc] 26 (0, 0))) := hid (by rw [hW]; exact heap_alloc_new _ _)
 have l3 : w.heap.size + 1 < w3.heap.size := C3.out.lt
 have CW := hid ((C3.out.below bW).below ((Below.refl _ _).drew))
 have RW : Hid (W.drew.heap[w.heap.size]? = _) := hid (block_below (block_below (D3.out.at R0.out (by omega)) bW) ((Below.refl _ _).drew))
 have VW : Hid (SysV W.drew (w.heap.size + 1 + 1) y (.slice oa y.ds.length oc) (.slice ta y.tms.length tc)) := hid (((V3.out.below bW).below ((Below.refl W.heap.size W).drew)).base (by simp))
 have BW := hid (((dw_below B0.out D3.out (by omega)).trans (bW.mono (by omega))).drew)
 have SD := hid (block_below SW.out ((Below.refl W.heap.size W).drew))
 rw [← hW]
 obtain ⟨HS, hHS⟩ : ∃ H, H = w3.heap.size := ⟨_, rfl⟩
 rw [← hHS] at SW SD l3 ⊢
 have DIW := hid (DI.out 400000 y.sg y.ds.length oc oa (.slice ta y.tms.length tc) ⟨_, _, _, rfl⟩ OK.out.sg OK.out.n W.drew (by omega) (by simpa using CW.out))
 obtain ⟨q0, q1, q2, qf⟩ := tcell3 SW.out
 have ql := lt_of_block SW.out
 have b3 : w.heap.size + 1 + 1 ≤ W.heap.size := by omega
 clear hW bW hHS DS
 go_region_held3 (fun X => X.cell? ⟨HS, 0, none⟩ = some (.int .i64 (y.sg : Int)) ∧ X.cell? ⟨HS, 1, none⟩ = some (.slice oa y.ds.length oc) ∧ X.cell? ⟨HS, 2, none⟩ = some (.slice ta y.tms.length tc)) (first | (with_reducible exact SX.out) | (with_reducible exact SY.out) | go_keep)
  (first | (go_at_call 42; have q := DIW.out; with_reducible refine q.mono ?_; clear q; intro e w5 hq; unfold ItemsEd at hq; obtain ⟨iv, its, rfl, ho, hl, hok, hc, hd⟩ := hq; obtain ⟨ia, ic, e5⟩ := own_any ho; subst e5; have S5 := hid (hd.at SD.out (by omega)); have SX := hid (And.intro (tcell3 S5.out).1 (And.intro (tcell3 S5.out).2.1 (tcell3 S5.out).2.2.1)); have SY := hid (keep3 (H := w.heap.size) (a := .int .i64 (y.sg : Int)) (b := .slice oa y.ds.length oc) (c := .slice ta y.tms.length tc) (by omega) S5.out); have R5 := hid (hd.at RW.out (by omega)); have V5 := hid (SysV.draw VW.out hd CW.out (by omega)); have O5 := hid ho; have L5 := hid hl; have K5 := hid hok; have B5 := hid (dw_below BW.out hd (by omega)); obtain ⟨z0, z1, z2, zf⟩ := tcell3 R5.out; have zl := lt_of_block R5.out; clear ho hl hok hc hd))
 all_goals
  go_wp2_with fail
  obtain ⟨v0, v1, v2, _⟩ := tcell3 (triR (a := .int .i64 (y.sg : Int)) (b := .slice oa y.ds.length oc) (c := .slice ta y.tms.length tc) R5.out)
  refine bodyPost_ret (v := .tuple #[.agg #[.int .i64 (y.sg : Int), .slice oa y.ds.length oc, .slice ta y.tms.length tc], .slice ia its.length ic]) (by simp [results, Tryz.results8, go_sem, v0, v1, v2]) rfl ?_
  exact scr_end R5.out V5.out OK.out O5.out (by have := l3; simp; omega) L5.out K5.out B5.out
end Go.Proofs.YtiimkhepplkocaaGreat
