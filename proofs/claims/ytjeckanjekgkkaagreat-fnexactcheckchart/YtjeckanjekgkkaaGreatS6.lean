import Derived.Test.YtjeckanjekgkkaaGreatS5
namespace Go.Proofs.YtjeckanjekgkkaaGreat
open Go.RowKit Go.Sort
attribute [local go_sem ↓] Go.wp_at_zero Go.wp_at_succ

/-- Has the question about that state an answer? -/
def askB (ss : List StD) (tn : Nat) (x : Int) : Bool := decide ((faultOf ss tn true).1 = 0) && betB x 0 ((ss.length : Int) - 1)
def ansA (ss : List StD) (tn : Nat) (x : Int) : List Nat := if askB ss tn x = true then up ss x.toNat else []
def ansD (ss : List StD) (tn : Nat) (x : Int) : List Nat := if askB ss tn x = true then down ss x.toNat else []
def ansM (ss : List StD) (tn : Nat) (f t : Int) : Int := if askB ss tn f = true ∧ askB ss tn t = true then dom ss f.toNat t.toNat else -2
theorem ask_good {ss : List StD} {tn : Nat} {x : Int} (h : askB ss tn x = true) : GoodT ss tn ∧ ∃ k : Nat, x = k ∧ k < ss.length := by
  unfold askB betB at h
  rw [Bool.and_eq_true, decide_eq_true_iff, decide_eq_true_iff] at h
  refine ⟨good_of h.1, x.toNat, by omega, by omega⟩
theorem lim_zero : limB ⟨0, 0, 0, 0⟩ = true := by simp [limB, limP]

theorem own_nil (w w1 : World) (h : w.heap.size ≤ w1.heap.size) : OwnI w (w1.alloc (.cells #[] 3)) (.slice (some ⟨w1.heap.size, 0, none⟩) 0 0) [] :=
  World.ownsRow_lit w1 #[] 0 h (by unfold maxLen; omega) rfl
theorem ownI_mono {w w0 w' : World} {v : Value} {l : List Nat} (h : OwnI w0 w' v l) (hs : w.heap.size ≤ w0.heap.size) : OwnI w w' v l :=
  ⟨h.1, h.2.imp id fun ⟨g, cap, cur, h1, h2, h3⟩ => ⟨g, cap, cur, h1, Nat.le_trans hs h2, h3⟩⟩

end Go.Proofs.YtjeckanjekgkkaaGreat
