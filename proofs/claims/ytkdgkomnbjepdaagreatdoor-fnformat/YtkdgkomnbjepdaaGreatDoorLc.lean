import Derived.Test.YtkdgkomnbjepdaaGreatDoorLb
import Derived.Test.YtkdgkomnbjepdaaGreatDoorZ0
namespace Go.Proofs.YtkdgkomnbjepdaaGreatDoor
open Go.RowKit Go.Sort
set_option linter.unusedVariables false
set_option linter.unusedSimpArgs false
attribute [local go_sem ↓] Go.wp_at_zero Go.wp_at_succ
end Go.Proofs.YtkdgkomnbjepdaaGreatDoor
namespace Go.Proofs.YtkdgkomnbjepdaaGreatDoor
open Go.RowKit Go.Sort
set_option linter.unusedVariables false
/-! The last element of a list of objects,states,transitions. -/
section
variable {X : World} {B g n cap : Nat} {R : List Rw}
theorem ob_cell {p : List ObG} {o : ObG} (h : (ObsG.mk (.slice (some ⟨g,0,none⟩) (p.length + 1) cap) (p ++ [o])).row.own X B) (j : Nat) (hj : j < 8) : X.cell? ⟨g,p.length * 8 + j,none⟩ = o.cells[j]? := by
 have h1 : X.ownsRow B 66 8 (.slice (some ⟨g,0,none⟩) (p.length + 1) cap) (p.length + 1) ((p ++ o :: []).flatMap ObG.cells) := by
  have := h
  simp only [Rw.own,ObsG.row,List.length_append,List.length_cons,List.length_nil,Nat.zero_add] at this
  exact this
 exact mid_cell ObG.cells 8 (fun _ => rfl) h1 j hj
theorem st_cell {p : List StG} {o : StG} (h : (StsG.mk (.slice (some ⟨g,0,none⟩) (p.length + 1) cap) (p ++ [o])).row.own X B) (j : Nat) (hj : j < 4) : X.cell? ⟨g,p.length * 4 + j,none⟩ = o.cells[j]? := by
 have h1 : X.ownsRow B 71 4 (.slice (some ⟨g,0,none⟩) (p.length + 1) cap) (p.length + 1) ((p ++ o :: []).flatMap StG.cells) := by
  have := h
  simp only [Rw.own,StsG.row,List.length_append,List.length_cons,List.length_nil,Nat.zero_add] at this
  exact this
 exact mid_cell StG.cells 4 (fun _ => rfl) h1 j hj
theorem tr_cell {p : List TrG} {o : TrG} (h : (TrsG.mk (.slice (some ⟨g,0,none⟩) (p.length + 1) cap) (p ++ [o])).row.own X B) (j : Nat) (hj : j < 5) : X.cell? ⟨g,p.length * 5 + j,none⟩ = o.cells[j]? := by
 have h1 : X.ownsRow B 75 5 (.slice (some ⟨g,0,none⟩) (p.length + 1) cap) (p.length + 1) ((p ++ o :: []).flatMap TrG.cells) := by
  have := h
  simp only [Rw.own,TrsG.row,List.length_append,List.length_cons,List.length_nil,Nat.zero_add] at this
  exact this
 exact mid_cell TrG.cells 5 (fun _ => rfl) h1 j hj
theorem ob_froz {p : List ObG} {o : ObG} (h : (ObsG.mk (.slice (some ⟨g,0,none⟩) (p.length + 1) cap) (p ++ [o])).row.own X B) (j : Nat) : X.frozen? ⟨g,j,none⟩ = false ∧ g < X.heap.size := by
 have h1 : X.ownsRow B 66 8 (.slice (some ⟨g,0,none⟩) (p.length + 1) cap) (p.length + 1) ((p ++ o :: []).flatMap ObG.cells) := by
  have := h
  simp only [Rw.own,ObsG.row,List.length_append,List.length_cons,List.length_nil,Nat.zero_add] at this
  exact this
 exact ⟨h1.frozenAt j,(h1.lt g rfl).2⟩
theorem st_froz {p : List StG} {o : StG} (h : (StsG.mk (.slice (some ⟨g,0,none⟩) (p.length + 1) cap) (p ++ [o])).row.own X B) (j : Nat) : X.frozen? ⟨g,j,none⟩ = false ∧ g < X.heap.size := by
 have h1 : X.ownsRow B 71 4 (.slice (some ⟨g,0,none⟩) (p.length + 1) cap) (p.length + 1) ((p ++ o :: []).flatMap StG.cells) := by
  have := h
  simp only [Rw.own,StsG.row,List.length_append,List.length_cons,List.length_nil,Nat.zero_add] at this
  exact this
 exact ⟨h1.frozenAt j,(h1.lt g rfl).2⟩
theorem tr_froz {p : List TrG} {o : TrG} (h : (TrsG.mk (.slice (some ⟨g,0,none⟩) (p.length + 1) cap) (p ++ [o])).row.own X B) (j : Nat) : X.frozen? ⟨g,j,none⟩ = false ∧ g < X.heap.size := by
 have h1 : X.ownsRow B 75 5 (.slice (some ⟨g,0,none⟩) (p.length + 1) cap) (p.length + 1) ((p ++ o :: []).flatMap TrG.cells) := by
  have := h
  simp only [Rw.own,TrsG.row,List.length_append,List.length_cons,List.length_nil,Nat.zero_add] at this
  exact this
 exact ⟨h1.frozenAt j,(h1.lt g rfl).2⟩
end
end Go.Proofs.YtkdgkomnbjepdaaGreatDoor
