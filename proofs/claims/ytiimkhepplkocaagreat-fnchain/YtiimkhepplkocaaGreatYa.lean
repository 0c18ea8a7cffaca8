import Derived.Test.YtiimkhepplkocaaGreatXa
import Derived.Test.YtiimkhepplkocaaGreatAo
import Derived.Laws.OwnMore
namespace Go.Proofs.YtiimkhepplkocaaGreat
open Go.RowKit Go.Sort
def Own (w : World) (base : Nat) (v : Value) (zs : List Int) : Prop := w.ownsRow base 3 1 v zs.length (zs.map (Value.int .i64)) ∧ v ≠ .slice none 0 0
theorem Own.form {w : World} {base : Nat} {v : Value} {zs : List Int} (h : Own w base v zs) : ∃ g cap, v = .slice (some ⟨g, 0, none⟩) zs.length cap ∧ base ≤ g ∧ g < w.heap.size := by
 rcases h.1.2 with ⟨e, _⟩ | ⟨g, cap, cur, e, hb, hh, _⟩
 ·exact absurd e h.2
 ·exact ⟨g, cap, e, hb, lt_of_block hh⟩
theorem Own.slice {w : World} {base : Nat} {zs : List Int} {ao : Option Addr} {n cap : Nat} (h : Own w base (.slice ao n cap) zs) : SliceOf w ao n zs := by
 obtain ⟨g, cap', e, hb, hg⟩ := h.form
 simp only [Value.slice.injEq] at e
 obtain ⟨rfl, rfl, rfl⟩ := e
 refine ⟨rfl, fun _ => ⟨g, 0, rfl, hg, fun i hi => ?_⟩⟩
 have := h.1.cellAt i (by omega)
 rw [Nat.zero_add, this]
 simp [hi, List.getD]
set_option maxHeartbeats 400000 in
theorem copyInts_any (ao : Option Addr) (n c : Nat) (zs : List Int) (w : World) (hn : n ≤ 1048576) (hs : SliceOf w ao n zs) :
  Calls Tryz.prog 124 #[.slice ao n c] w fun e w' => ∃ v, e = .returned v ∧ Own w' w.heap.size v zs ∧ Below w.heap.size w w' := by
 obtain ⟨i0, hi, hz0, hz1, hz2⟩ := info_parts Tryz.infoInt0
 have HS := hid hs
 have HL := hid hs.1
 clear hs
 go_enter Tryz.func124, Tryz.ntmps124
 go_wp2_with (at_builtin; refine wpList_append_opt _ rfl (.tmp 3) (.tmp 4) 30 rfl w.heap.size 3 i0 (.int .i64 0) 1 8 Tryz.underlying30 hi hz0 hz1 hz2 rfl (by decide) _ 0 [] rfl ?c0 ao n c (zs.map (Value.int .i64)) rfl ?c6 ?c1 ?c2 ?c3 ?c4 ?c5 ?_)
 case c0 => exact World.ownsRow_lit w #[] 0 (Nat.le_refl _) (by decide) rfl
 case c6 => simp [HL.out]
 case c1 => exact news_of HS.out (below1 _ _)
 case c2 => intro u hu; simp at hu; obtain ⟨z, _, rfl⟩ := hu; rfl
 case c3 => unfold maxLen; omega
 case c4 => omega
 case c5 => simp
 ·intro v' w1 hown' hgrow hnil
  have O := hid hown'
  have G := hid hgrow
  have N := hid hnil
  clear hown' hgrow hnil
  go_wp2
  go_ret
  exact ⟨_, rfl, ⟨by rw [HL.out]; simpa using O.out, by simpa using N.out⟩, (below1 _ _).grown G.out (by simp) (fun k hk => by simp [Value.ownBlock] at hk; omega)⟩
end Go.Proofs.YtiimkhepplkocaaGreat
namespace Go.Proofs.YtiimkhepplkocaaGreat
open Go.RowKit Go.Sort
attribute [local go_sem ↓] Go.wp_at_zero Go.wp_at_succ
set_option maxHeartbeats 2000000 in
theorem set_low (mb kg kn kc vg vn vc i : Nat) (k n : Int) (arg ev x : Value) (w : World) (h1 : 1 ≤ k) (h7 : k ≤ 7)
  (hm : w.heap[mb]? = some (.cells #[.slice (some ⟨kg, 0, none⟩) kn kc, .slice (some ⟨vg, 0, none⟩) vn vc, arg, ev] 146 (0, 0)))
  (ki : (i : Int) < kn) (vi : (i : Int) < vn) (vl : vg < w.heap.size)
  (hk : w.cell? ⟨kg, i, none⟩ = some (.int .i64 k)) (hv : w.cell? ⟨vg, i, none⟩ = some x) (hf : w.frozen? ⟨vg, i, none⟩ = false) :
  Calls Tryz.prog 206 #[.pointer (some ⟨mb, 0, none⟩), .int .i64 i, .int .i64 n] w fun e w' => e = .returned (.tuple #[]) ∧ ∃ w1, Below w.heap.size w w1 ∧ w' = w1.setCell ⟨vg, i, none⟩ (.int .i64 (conv k n)) := by
 obtain ⟨c0, c1, _, _⟩ := quad_cells hm
 have HM := hid hm
 have ml := lt_of_block hm
 have HV := hid hv
 have HF := hid hf
 have hent := enters_cfn k h1 h7
 have D : Hid (Below w.heap.size w w.drew) := (Below.refl _ _).drew
 clear hm
 go_enter Tryz.func206, Tryz.ntmps206
 go_wp2
 go_region_with (first
  | (go_at_call 117; refine (converterOf_any k _ h1 h7).mono ?_; rintro e w1 ⟨rfl, hb⟩; have B := hid (D.out.trans hb); have c1' := (hb.cell (p := ⟨mb, 1, none⟩) ml).trans c1; have hv' := (hb.cell (p := ⟨vg, i, none⟩) vl).trans HV.out; have hf' := (hb.frozen (p := ⟨vg, i, none⟩) vl).trans HF.out; clear hb)
  | (refine (to_any k n _ h1 h7).mono ?_; rintro e w2 ⟨rfl, hw⟩; obtain rfl := hw.symm))
 all_goals
  go_wp2
  go_end0
  exact ⟨rfl, _, B.out, rfl⟩
end Go.Proofs.YtiimkhepplkocaaGreat
namespace Go.Proofs.YtiimkhepplkocaaGreat
open Go.RowKit Go.Sort
attribute [local go_sem ↓] Go.wp_at_zero Go.wp_at_succ
set_option maxHeartbeats 2000000 in
theorem setNode_low (y f : Nat) (x : Value) (mb : Nat) (i : Nat) (q : Int) (w : World) (R : World → World → Prop)
  (hm : ∀ (w : World), (callMethod (.iface y x) vname #[.pointer (some ⟨mb, 0, none⟩)]).run Tryz.prog w = .ok (.enter f #[x, .pointer (some ⟨mb, 0, none⟩)]) w)
  (hv : Val w f x (.pointer (some ⟨mb, 0, none⟩)) q)
  (hr : ∀ w', Below w.heap.size w w' → Calls Tryz.prog 206 #[.pointer (some ⟨mb, 0, none⟩), .int .i64 i, .int .i64 q] w' fun e w'' => e = .returned (.tuple #[]) ∧ R w' w'') :
  Calls Tryz.prog 219 #[.agg #[.int .i64 i, .iface y x], .pointer (some ⟨mb, 0, none⟩)] w fun e w' => e = .returned (.tuple #[]) ∧ ∃ w1, Below w.heap.size w w1 ∧ R w1 w' := by
 have M := hid hm
 have V := hid hv
 have HR := hid hr
 clear hm hv hr
 obtain ⟨W, hW⟩ : ∃ W, W = w.alloc (.cells #[.int .i64 i, .iface y x] 268) := ⟨_, rfl⟩
 have bW : Below w.heap.size w W := by rw [hW]; exact below1 _ _
 have hQ : W.heap[w.heap.size]? = some (.cells #[.int .i64 i, .iface y x] 268 (0, 0)) := by rw [hW]; exact heap_alloc_new w _
 obtain ⟨q0, q1, _, _⟩ := pair_cells hQ
 have hl := lt_of_block hQ
 have D : Hid (Below w.heap.size w W.drew) := bW.drew
 have HW := hid hW
 have M2 : ∀ w : World, ((Sem.run Tryz.prog (method 434 y x "loop.example/s0063/impl.value") w).andThen fun a w' => Sem.run Tryz.prog (callFunc a.fst #[a.snd, Value.pointer (some ⟨mb, 0, none⟩)]) w') = .ok (.enter f #[x, .pointer (some ⟨mb, 0, none⟩)]) w := fun w => by
  have := M.out w
  simpa [callMethod, vname, go_sem] using this
 clear hQ bW hW
 go_enter Tryz.func219, Tryz.ntmps219
 go_wp2
 rw [← HW.out]
 go_region_with (first
  | (refine (V.out _ D.out).mono ?_; rintro e w1 ⟨rfl, hb⟩; have B := hid (D.out.trans (hb.mono D.out.size)); have q0' := (hb.cell (p := ⟨w.heap.size, 0, none⟩) hl).trans q0; clear hb)
  | (refine (HR.out _ B.out).mono ?_; rintro e w3 ⟨rfl, hb⟩; have B3 := hid hb; clear hb))
 all_goals
  go_wp2
  go_end0
  exact ⟨rfl, _, B.out, B3.out⟩
end Go.Proofs.YtiimkhepplkocaaGreat
namespace Go.Proofs.YtiimkhepplkocaaGreat
open Go.RowKit Go.Sort
end Go.Proofs.YtiimkhepplkocaaGreat
