import Derived.Test.YtdpejnacganadaaH1
namespace Go.Proofs.Ytdpejnacganadaa
open Go.RowKit Go.Sort
attribute [local go_sem ↓] Go.wp_at_zero Go.wp_at_succ

set_option maxHeartbeats 2000000 in
theorem set_low (mb kg kn kc vg vn vc i : Nat) (k n : Int) (arg ev x : Value) (w : World) (h1 : 1 ≤ k) (h7 : k ≤ 7)
    (hm : w.heap[mb]? = some (.cells #[.slice (some ⟨kg, 0, none⟩) kn kc, .slice (some ⟨vg, 0, none⟩) vn vc, arg, ev] 72 (0, 0)))
    (ki : (i : Int) < kn) (vi : (i : Int) < vn) (vl : vg < w.heap.size)
    (hk : w.cell? ⟨kg, i, none⟩ = some (.int .i64 k)) (hv : w.cell? ⟨vg, i, none⟩ = some x) (hf : w.frozen? ⟨vg, i, none⟩ = false) :
    Calls Try.prog 98 #[.pointer (some ⟨mb, 0, none⟩), .int .i64 i, .int .i64 n] w fun e w' => e = .returned (.tuple #[]) ∧ ∃ w1, Below w.heap.size w w1 ∧ w' = w1.setCell ⟨vg, i, none⟩ (.int .i64 (conv k n)) := by
  obtain ⟨c0, c1, _, _⟩ := quad_cells hm
  have HM := hid hm
  have ml := lt_of_block hm
  have HV := hid hv
  have HF := hid hf
  have hent := enters_cfn k h1 h7
  have D : Hid (Below w.heap.size w w.drew) := (Below.refl _ _).drew
  clear hm
  go_enter Try.func98, Try.ntmps98
  go_wp2
  go_region_with (first
    | (go_at_call 54; refine (converterOf_any k _ h1 h7).mono ?_; rintro e w1 ⟨rfl, hb⟩; have B := hid (D.out.trans hb); have c1' := (hb.cell (p := ⟨mb, 1, none⟩) ml).trans c1; have hv' := (hb.cell (p := ⟨vg, i, none⟩) vl).trans HV.out; have hf' := (hb.frozen (p := ⟨vg, i, none⟩) vl).trans HF.out; clear hb)
    | (refine (to_any k n _ h1 h7).mono ?_; rintro e w2 ⟨rfl, hw⟩; obtain rfl := hw.symm))
  all_goals
    go_wp2
    go_end0
    exact ⟨rfl, _, B.out, rfl⟩
end Go.Proofs.Ytdpejnacganadaa
