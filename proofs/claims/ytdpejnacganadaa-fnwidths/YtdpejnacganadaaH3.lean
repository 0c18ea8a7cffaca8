import Derived.Test.YtdpejnacganadaaH2
namespace Go.Proofs.Ytdpejnacganadaa
open Go.RowKit Go.Sort
attribute [local go_sem ↓] Go.wp_at_zero Go.wp_at_succ

set_option maxHeartbeats 2000000 in
theorem setNode_low (y f : Nat) (x : Value) (mb : Nat) (i : Nat) (q : Int) (w : World) (R : World → World → Prop)
    (hm : ∀ (w : World), (callMethod (.iface y x) vname #[.pointer (some ⟨mb, 0, none⟩)]).run Try.prog w = .ok (.enter f #[x, .pointer (some ⟨mb, 0, none⟩)]) w)
    (hv : Val w f x (.pointer (some ⟨mb, 0, none⟩)) q)
    (hr : ∀ w', Below w.heap.size w w' → Calls Try.prog 98 #[.pointer (some ⟨mb, 0, none⟩), .int .i64 i, .int .i64 q] w' fun e w'' => e = .returned (.tuple #[]) ∧ R w' w'') :
    Calls Try.prog 104 #[.agg #[.int .i64 i, .iface y x], .pointer (some ⟨mb, 0, none⟩)] w fun e w' => e = .returned (.tuple #[]) ∧ ∃ w1, Below w.heap.size w w1 ∧ R w1 w' := by
  have M := hid hm
  have V := hid hv
  have HR := hid hr
  clear hm hv hr
  obtain ⟨W, hW⟩ : ∃ W, W = w.alloc (.cells #[.int .i64 i, .iface y x] 121) := ⟨_, rfl⟩
  have bW : Below w.heap.size w W := by rw [hW]; exact below1 _ _
  have hQ : W.heap[w.heap.size]? = some (.cells #[.int .i64 i, .iface y x] 121 (0, 0)) := by rw [hW]; exact heap_alloc_new w _
  obtain ⟨q0, q1, _, _⟩ := pair_cells hQ
  have hl := lt_of_block hQ
  have D : Hid (Below w.heap.size w W.drew) := bW.drew
  have HW := hid hW
  have M2 : ∀ w : World, ((Sem.run Try.prog (method 288 y x "loop.example/s0063/impl.value") w).andThen fun a w' => Sem.run Try.prog (callFunc a.fst #[a.snd, Value.pointer (some ⟨mb, 0, none⟩)]) w') = .ok (.enter f #[x, .pointer (some ⟨mb, 0, none⟩)]) w := fun w => by
    have := M.out w
    simpa [callMethod, vname, go_sem] using this
  clear hQ bW hW
  go_enter Try.func104, Try.ntmps104
  go_wp2
  rw [← HW.out]
  go_region_with (first
    | (refine (V.out _ D.out).mono ?_; rintro e w1 ⟨rfl, hb⟩; have B := hid (D.out.trans (hb.mono D.out.size)); have q0' := (hb.cell (p := ⟨w.heap.size, 0, none⟩) hl).trans q0; clear hb)
    | (refine (HR.out _ B.out).mono ?_; rintro e w3 ⟨rfl, hb⟩; have B3 := hid hb; clear hb))
  all_goals
    go_wp2
    go_end0
    exact ⟨rfl, _, B.out, B3.out⟩
end Go.Proofs.Ytdpejnacganadaa
