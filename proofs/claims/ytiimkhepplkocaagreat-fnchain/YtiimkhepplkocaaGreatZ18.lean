import Derived.Test.YtiimkhepplkocaaGreatV11
import Derived.Test.YtiimkhepplkocaaGreatKb
import Derived.Test.YtiimkhepplkocaaGreatZf
import Derived.Deep.RegionWith
import Derived.Deep.DeepCutAuto
namespace Go.Proofs.YtiimkhepplkocaaGreat
open Go.RowKit Go.Sort
set_option linter.unusedVariables false
attribute [local go_sem ↓] Go.wp_at_zero Go.wp_at_succ
abbrev BoxL := List (Nat × Array Value × TypeId)
abbrev C8 (n m q : Nat) (c0 c1 l0 l1 l2 l3 b0 b1 : Value) (X : World) : Prop := (X.cell? ⟨n, 0, none⟩ = some c0 ∧ X.cell? ⟨n, 1, none⟩ = some c1) ∧ (X.cell? ⟨m, 0, none⟩ = some l0 ∧ X.cell? ⟨m, 1, none⟩ = some l1 ∧ X.cell? ⟨m, 2, none⟩ = some l2 ∧ X.cell? ⟨m, 3, none⟩ = some l3) ∧ (X.cell? ⟨q, 0, none⟩ = some b0 ∧ X.cell? ⟨q, 1, none⟩ = some b1)
abbrev Its (k v e : Value) (b : Nat) : Prop := k.ownBlock = some b ∨ v.ownBlock = some b ∨ e.ownBlock = some b
section
variable {w : World} {bs : BoxL} {RK RV : List Int} {RE : List EffD} {kS vS eS : Value} {es : List StD} {xs : List TrD} {kn vn : Nat} {x1 x2 : Value} {g6 g7 : Nat} {kI vI eI : Value} {X Y : World}
end
theorem boot_len {ss : List StD} {ts : List TrD} {l : LimD} {ks vs : List Int} (hk : ks.length ≤ 1048576) (hv : vs.length ≤ 1048576) : (btK ss ts l ks vs).length ≤ 1048576 ∧ (btV ss ts l ks vs).length ≤ 1048576 ∧ (btE ss ts l ks vs).length ≤ 1048576 := by
 by_cases ho : okBt ss ts l ks vs = true
 ·have hc : (checkOf ss ts l).1 = 0 := by unfold okBt at ho; simp at ho; exact ho.1
  have hC := chk_of hc
  have G := hC.good
  have h1 := flat_le (K := bootOf ss) (g := fun i => (ss.getD i st0).entry) (fun x hx => by obtain ⟨vs, hv⟩ := hC.ent x (bootOf_lt G x hx); exact lift_len hv)
  have h2 := bootOf_len G
  have h3 := execS_len (vs.length : Int) ks 0 (bootS ss) vs
  have h4 : (bootS ss).length ≤ 1048576 := by unfold bootS; omega
  unfold btK btV btE
  rw [if_pos ho, if_pos ho, if_pos ho]
  omega
 ·unfold btK btV btE
  rw [if_neg ho, if_neg ho, if_neg ho]
  simp
end Go.Proofs.YtiimkhepplkocaaGreat
