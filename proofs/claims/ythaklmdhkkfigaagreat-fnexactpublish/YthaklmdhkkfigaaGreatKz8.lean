import Derived.Test.YthaklmdhkkfigaaGreatKz6
import Derived.Test.YthaklmdhkkfigaaGreatZb
namespace Go.Proofs.YthaklmdhkkfigaaGreat
open Go.RowKit Go.Sort
set_option linter.unusedVariables false
attribute [local go_sem ↓] Go.wp_at_zero Go.wp_at_succ

/-- What a call of the program answers. -/
def AnsI (w w' : World) (e : Ending) (r : KerD × List (Int × Int × Int)) : Prop := ∃ (L V Q D E F : Value) (vs vq vd : List Value) (ra : Option Addr) (rn rc : Nat), e = .returned (.tuple #[.agg #[L, V, Q, D, E, F], .slice ra rn rc]) ∧ Rw w' w.heap.size L V Q D E F vs vq vd r.1 ∧ Far6 L Q D E F vs vq vd ∧ RcRow w' w.heap.size (.slice ra rn rc) r.2 ∧ Below w.heap.size w w'
theorem al_left {ts : List (Int × Int)} {kd : KerD} {n : Nat} (h : kd.left.length = n) : kd.left = (alL ts kd n).map (fun x => x.2.1) := by
  apply List.ext_getElem
  · simp [alL, h]
  · intro i h1 h2
    simp [alL, alF, List.getD_eq_getElem?_getD, h1]
theorem al_every {ts : List (Int × Int)} {kd : KerD} {n : Nat} (h : kd.every.length = n) : kd.every = (alL ts kd n).map (fun x => x.2.2) := by
  apply List.ext_getElem
  · simp [alL, h]
  · intro i h1 h2
    simp [alL, alF, List.getD_eq_getElem?_getD, h1]
/-- The kernel's lists keep their lengths. -/
structure SameK (k k' : KerD) : Prop where
  l : k'.leaf.length = k.leaf.length
  v : k'.vals.length = k.vals.length
  q : k'.qs.length = k.qs.length
  d : k'.ds.length = k.ds.length
  e : k'.left = k.left
  f : k'.every = k.every
theorem SameK.refl (k : KerD) : SameK k k := ⟨rfl, rfl, rfl, rfl, rfl, rfl⟩
/-- Six cells are put into a result's box. -/
theorem ans_put {w X : World} {H : Nat} {p0 p1 p2 p3 p4 p5 L V Q D E F : Value} {vs vq vd : List Value} {k : KerD} {rv : Value} {rs : List (Int × Int × Int)} {B : Nat} (o : X.heap[H]? = some (.cells #[p0, p1, p2, p3, p4, p5] 35 (0, 0))) (hb : Below w.heap.size w X) (hB : w.heap.size ≤ H) (hr : Rw X B L V Q D E F vs vq vd k) (hB2 : w.heap.size ≤ B) (hc : RcRow X w.heap.size rv rs) : (put6 X H L V Q D E F).heap[H]? = some (.cells #[L, V, Q, D, E, F] 35 (0, 0)) ∧ Rw (put6 X H L V Q D E F) w.heap.size L V Q D E F vs vq vd k ∧ RcRow (put6 X H L V Q D E F) w.heap.size rv rs ∧ Below w.heap.size w (put6 X H L V Q D E F) := by
  have s := set6 (a := L) (b := V) (c := Q) (d := D) (e := E) (f := F) o hb hB
  have h := hr.kp s.2.1 (fun _ h => h)
  refine ⟨s.1, ⟨row_base h.l hB2, ⟨row_base h.v.row hB2, h.v.len, fun i hi => row_base (h.v.inn i hi) hB2⟩, ⟨row_base h.q.row hB2, h.q.len, fun i hi => row_base (h.q.inn i hi) hB2⟩, ⟨row_base h.d.row hB2, h.d.len, fun i hi => row_base (h.d.inn i hi) hB2⟩, row_base h.e hB2, row_base h.f hB2⟩, ?_, s.2.2⟩
  have t : Tn (· = H) X (put6 X H L V Q D E F) := (((((Tn.one _).trans (Tn.one _)).trans (Tn.one _)).trans (Tn.one _)).trans (Tn.one _)).trans (Tn.one _)
  exact row_tn hc t (by rintro b cs rfl he; rw [o] at he; simp at he)
end Go.Proofs.YthaklmdhkkfigaaGreat
