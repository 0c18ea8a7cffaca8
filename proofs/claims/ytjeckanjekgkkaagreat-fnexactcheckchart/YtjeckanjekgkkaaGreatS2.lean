import Derived.Test.YtjeckanjekgkkaaGreatS1
namespace Go.Proofs.YtjeckanjekgkkaaGreat
open Go.RowKit Go.Sort
attribute [local go_sem ↓] Go.wp_at_zero Go.wp_at_succ

theorem lt_alloc (w : World) (o : Obj) : w.heap.size < (w.alloc o).heap.size := by simp
theorem ownI_alloc {w w' : World} {v : Value} {l : List Nat} (h : OwnI w w' v l) (o : Obj) : OwnI w (w'.alloc o) v l := World.ownsRow.alloc h o
theorem own_lit (w w1 : World) (x : Nat) (h : w.heap.size ≤ w1.heap.size) : (w1.alloc (.cells #[.int .i64 (x : Int)] 3)).ownsRow w.heap.size 3 1 (.slice (some ⟨w1.heap.size, 0, none⟩) 1 1) 1 [.int .i64 (x : Int)] :=
  World.ownsRow_lit w1 #[.int .i64 (x : Int)] 1 h (by unfold maxLen; omega) rfl

theorem undrew {B : Nat} {w w' : World} (h : Below B w.drew w') : Below B w w' := ⟨h.os, h.tape, h.output, h.size, h.block⟩

theorem grown_cell {w w' : World} {row : Option Nat} (h : w.grownBy w' row) {b o : Nat} (hb : b < w.heap.size) (hr : row ≠ some b) : w'.cell? ⟨b, o, none⟩ = w.cell? ⟨b, o, none⟩ := World.cell?_of_block (a := ⟨b, o, none⟩) (grown_block h hb hr)
theorem after_lit {w w1 : World} {lit : Obj} {a c : Value} {t : TypeId} (hb1 : Below ((w.alloc (.cells #[a, c] t)).alloc lit).drew.heap.size ((w.alloc (.cells #[a, c] t)).alloc lit).drew w1) :
    Below w.heap.size w w1 ∧ (w1.cell? ⟨w.heap.size, 0, none⟩ = some a ∧ w1.cell? ⟨w.heap.size, 1, none⟩ = some c) ∧ w.heap.size + 1 < w1.heap.size := by
  have h := (undrew hb1)
  have h2 : Below (w.alloc (.cells #[a, c] t)).heap.size (w.alloc (.cells #[a, c] t)) w1 := (below1 _ lit).trans (h.mono (by simp))
  exact ⟨(below1 _ _).trans (h2.mono (by simp)), two_cells (block_below (heap_alloc_new w _) h2), by have h := h.size; simp at h; omega⟩

theorem after_app {w w1 w2 : World} {H : Nat} (hgrow : w1.grownBy w2 (some H)) (hH : H = w.heap.size + 1) (Z1 : w.heap.size + 1 < w1.heap.size) {b o : Nat} (hbl : b < w.heap.size) {a c d : Value}
    (SX : w1.cell? ⟨w.heap.size, 0, none⟩ = some a ∧ w1.cell? ⟨w.heap.size, 1, none⟩ = some c ∧ w1.cell? ⟨b, o, none⟩ = some d) (B1 : Below w.heap.size w w1) :
    (w2.cell? ⟨w.heap.size, 0, none⟩ = some a ∧ w2.cell? ⟨w.heap.size, 1, none⟩ = some c ∧ w2.cell? ⟨b, o, none⟩ = some d) ∧ Below w.heap.size w w2 := by
  subst hH
  have h1 : ∀ q, q < w.heap.size + 1 → ∀ o, w2.cell? ⟨q, o, none⟩ = w1.cell? ⟨q, o, none⟩ := fun q hq o => grown_cell hgrow (by omega) (by simp; omega)
  exact ⟨⟨(h1 _ (by omega) _).trans SX.1, (h1 _ (by omega) _).trans SX.2.1, (h1 _ (by omega) _).trans SX.2.2⟩, B1.grown hgrow B1.size (fun kk e => by simp at e; omega)⟩

theorem after_box {w w1 : World} {a c : Value} {t : TypeId} (hb1 : Below (w.alloc (.cells #[a, c] t)).drew.heap.size (w.alloc (.cells #[a, c] t)).drew w1) :
    Below w.heap.size w w1 ∧ (w1.cell? ⟨w.heap.size, 0, none⟩ = some a ∧ w1.cell? ⟨w.heap.size, 1, none⟩ = some c) ∧ w.heap.size < w1.heap.size := by
  have h2 := undrew hb1
  exact ⟨(below1 _ _).trans (h2.mono (by simp)), two_cells (block_below (heap_alloc_new w _) h2), by have h := h2.size; simp at h; omega⟩
theorem after_app2 {w w1 w2 : World} {lit : Obj} (hgrow : (w1.alloc lit).grownBy w2 (some w1.heap.size)) (Z1 : w.heap.size < w1.heap.size) {b o : Nat} (hbl : b < w.heap.size) {a c d : Value}
    (SX : w1.cell? ⟨w.heap.size, 0, none⟩ = some a ∧ w1.cell? ⟨w.heap.size, 1, none⟩ = some c ∧ w1.cell? ⟨b, o, none⟩ = some d) (B1 : Below w.heap.size w w1) :
    (w2.cell? ⟨w.heap.size, 0, none⟩ = some a ∧ w2.cell? ⟨w.heap.size, 1, none⟩ = some c ∧ w2.cell? ⟨b, o, none⟩ = some d) ∧ Below w.heap.size w w2 := by
  have h1 : ∀ q, q < w.heap.size + 1 → ∀ o, w2.cell? ⟨q, o, none⟩ = w1.cell? ⟨q, o, none⟩ := fun q hq o => (grown_cell hgrow (by simp; omega) (by simp; omega)).trans ((below1 w1 lit).cell (p := ⟨q, o, none⟩) (show q < w1.heap.size by omega))
  have B2 : Below w.heap.size w (w1.alloc lit) := B1.alloc (by omega) _
  exact ⟨⟨(h1 _ (by omega) _).trans SX.1, (h1 _ (by omega) _).trans SX.2.1, (h1 _ (by omega) _).trans SX.2.2⟩, B2.grown hgrow B2.size (fun kk e => by simp at e; omega)⟩

end Go.Proofs.YtjeckanjekgkkaaGreat
