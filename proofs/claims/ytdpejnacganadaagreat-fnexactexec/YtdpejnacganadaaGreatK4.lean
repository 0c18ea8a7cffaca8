import Derived.Test.YtdpejnacganadaaGreatK3
namespace Go.Proofs.YtdpejnacganadaaGreat
open Go.RowKit Go.Sort

/-- The codes of a list of statements are no longer than all that is asked. -/
def Fits (ss : List StmD) : Prop := ss.length ≤ 1048576 ∧ ∀ i, i < ss.length → (ss.getD i stm0).code.length ≤ 1048576
theorem fits_of {ss : List StmD} (h : wStms ss ≤ 1048576) : Fits ss := by
  unfold wStms at h
  refine ⟨by omega, fun i hi => ?_⟩
  have : (ss.getD i stm0).code.length ≤ _ := le_sumTo (fun i => (ss.getD i stm0).code.length) hi
  omega
theorem toStmS_fit (ao : Option Addr) (n c : Nat) (ss : List StmD) (w : World) (hf : Fits ss) (hs : StmsOf w ao n ss) :
    Calls Tryz.prog 7 #[.slice ao n c] w fun e w' => ∃ g, e = .returned (.slice (some ⟨g, 0, none⟩) n n) ∧ SRow w' w.heap.size (.slice (some ⟨g, 0, none⟩) n n) ss ∧ Below w.heap.size w w' :=
  toStmS_any ao n c ss w (by rw [← hs.1]; exact hf.1) (by rw [← hs.1]; exact hf.2) hs

def StCells (w : World) (L : Nat) (F : Nat → Value) (ss : List StD) (k : Nat) : Prop :=
  ∀ i, i < k → F (i * 4) = .int .i64 (ss.getD i st0).parent ∧ F (i * 4 + 1) = .int .i64 (ss.getD i st0).initial ∧ SRow w L (F (i * 4 + 2)) (ss.getD i st0).entry ∧ SRow w L (F (i * 4 + 3)) (ss.getD i st0).exit
theorem StCells.same {w w' : World} {L : Nat} {F : Nat → Value} {ss : List StD} {k : Nat} (h : StCells w L F ss k) (hs : Same L w w') : StCells w' L F ss k := fun i hi => ⟨(h i hi).1, (h i hi).2.1, (h i hi).2.2.1.same hs, (h i hi).2.2.2.same hs⟩
theorem StCells.mono {w : World} {L L' : Nat} {F : Nat → Value} {ss : List StD} {k : Nat} (h : StCells w L F ss k) (hl : L' ≤ L) : StCells w L' F ss k := fun i hi => ⟨(h i hi).1, (h i hi).2.1, (h i hi).2.2.1.mono hl, (h i hi).2.2.2.mono hl⟩
def FitsSt (ss : List StD) : Prop := ss.length ≤ 1048576 ∧ ∀ i, i < ss.length → Fits (ss.getD i st0).entry ∧ Fits (ss.getD i st0).exit
theorem SRow.stms' {w : World} {L : Nat} {v : Value} {ss : List StmD} (h : SRow w L v ss) (hf : Fits ss) : ∃ co cn cc, v = .slice co cn cc ∧ cn ≤ 9223372036854775807 ∧ StmsOf w co cn ss := by
  obtain ⟨g, e, hs⟩ := h.stms (fun i hi => Nat.le_trans (hf.2 i hi) (by omega))
  exact ⟨_, _, _, e, Nat.le_trans hf.1 (by omega), hs⟩
end Go.Proofs.YtdpejnacganadaaGreat
