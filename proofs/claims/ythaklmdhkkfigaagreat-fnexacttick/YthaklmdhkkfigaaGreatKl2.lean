import Derived.Test.YthaklmdhkkfigaaGreatKl1
import Derived.Test.YthaklmdhkkfigaaGreatKz8
namespace Go.Proofs.YthaklmdhkkfigaaGreat
open Go.RowKit Go.Sort
set_option linter.unusedVariables false
attribute [local go_sem ↓] Go.wp_at_zero Go.wp_at_succ

theorem small_no : Small (kd0, []) := ⟨⟨by simp, ⟨by simp, fun i hi => by simp at hi⟩, ⟨by simp, fun i hi => by simp at hi⟩, ⟨by simp, fun i hi => by simp at hi⟩, by simp, by simp⟩, by simp, by simp, by simp, by simp⟩
end Go.Proofs.YthaklmdhkkfigaaGreat
