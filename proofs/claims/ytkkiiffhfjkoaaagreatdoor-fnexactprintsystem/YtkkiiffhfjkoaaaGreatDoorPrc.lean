import Derived.Test.YtkkiiffhfjkoaaaGreatDoorPri
namespace Go.Proofs.YtkkiiffhfjkoaaaGreatDoor
open Go
set_option maxRecDepth 100000

/-- THE STATEMENT: the tied card. -/
theorem fnExactPrintSystem_card : Rows.FnExactPrintSystemCardSaid :=
  Claim7.holds_tied_plain_at .later [] [.data, .data, .data, .data, .data] true Rows.fnExactPrintSystemCard.stood.harness Rows.fnExactPrintSystemCard.stood.looks
    fnExactPrintSystem_over (fun _ h => by cases h) (by kernel_rfl) (fun _ h => by cases h) fnExactPrintSystem_row_tie rfl ⟨rfl, rfl⟩ (by kernel_rfl) rfl
    (fun f fn hf hfn => by
      obtain rfl : f = 3 := Option.some.inj ((show Tryz.prog.funcNamed "loop.example/s0063/laws.FnExactPrintSystem" = some 3 by kernel_rfl).symm.trans hf) |>.symm
      obtain rfl : fn = Tryz.f3 := (Option.some.inj (Tryz.func3.symm.trans hfn)).symm
      exact ⟨by kernel_rfl, fun j t ht => by
        rw [Tryz.params3] at ht
        have hm : t ∈ [25] := by simpa using Array.mem_of_getElem? ht
        have hall : ([25].all fun u => !Tryz.prog.wantsStandIn u) = true := by kernel_rfl
        exact (show Tryz.prog.wantsStandIn t = false by simpa using List.all_eq_true.1 hall t hm)⟩)
    (by kernel_rfl)
#print axioms fnExactPrintSystem_card
end Go.Proofs.YtkkiiffhfjkoaaaGreatDoor
