/-
  No cell of these rows narrows 'for every input' (looked for: loops, veiled, ifaces, maps, wideKeys, modest, calm, conditions, laid).
  DERIVED. THE GIVEN ROWS OF THIS SEAT. 5 by the template 'for every input the law returns true; each argument reads behind the call as it read before'; 0 by the template 'total and deterministic' (their statements: YtiimkhepplkocaaGreatTotals.lean).
  GIVEN WITH THE SEED: the statements are not yours to turn. If you find one false, say at which input.
  Laid BY PROGRAM, IN A SANDBOX (cutbox-rows.mjs): the forced cells as the released guide's own fill.sh prints them over the translation 018c81d93670c91a… (all of the seat's roots in one cut). By AI agents, Wed Nov 11 2026. No macro, syntax, notation, axiom, sorry.
-/
import Derived.Test.YtiimkhepplkocaaGreatChecked
import GoSem.Claim
import GoSem.ClaimJoined
import GoSem.ClaimMapViews
import Derived.JoinedTies
import Derived.KernelRfl
namespace Go.Proofs.YtiimkhepplkocaaGreat
/- THE CELL 'sum', in the pinned program and in every row, IS THE sha256 OF THE DUMP (.gsa) THAT YtiimkhepplkocaaGreatProg.lean LOADS. Nothing in Lean hashes anything: it is a label: what it is worth is what the hold of that sum in a sandbox is worth. -/
noncomputable def Tryz.pinned : Pinned := { name := "ytiimkhepplkocaagreat", sum := "018c81d93670c91a773f5a8da442e9015c97605590348ba4ad642b085cf07344", checked := Tryz.checked }
namespace Rows
def none {H : Type} : Left H := { results := [], args := [] }

/-- 'laws.FnTable': WHATEVER THE INPUT: true; the input reads as it did. -/
def fnTableSpec : ChangeSpec := { name := "fnTable", fn := fun _ => fun
  | [d1, d2] => { results := [.lit (.bool true)], args := [d1, d2] }
  | _ => none }
def fnTableRow : OpenClaim := { program := "ytiimkhepplkocaagreat", sum := "018c81d93670c91a773f5a8da442e9015c97605590348ba4ad642b085cf07344", func := "loop.example/s0063/laws.FnTable", spec := "fnTable", unfollowed := true, recurses := true, plainKeys := false, apart := false }
def FnTableSaid : Prop := fnTableRow.holds Tryz.pinned (OpenSpec.ofChange fnTableSpec)

/-- ITS FALSE NEIGHBOUR: 'it returns false'. Refute it at one input. -/
def fnTableWrong : ChangeSpec := { name := "fnTable", fn := fun _ => fun
  | [d1, d2] => { results := [.lit (.bool false)], args := [d1, d2] }
  | _ => none }
def FnTableWrongFalsely : Prop := fnTableRow.holds Tryz.pinned (OpenSpec.ofChange fnTableWrong)

/-- 'laws.FnChain': WHATEVER THE INPUT: true; the input reads as it did. -/
def fnChainSpec : ChangeSpec := { name := "fnChain", fn := fun _ => fun
  | [d1, d2] => { results := [.lit (.bool true)], args := [d1, d2] }
  | _ => none }
def fnChainRow : OpenClaim := { program := "ytiimkhepplkocaagreat", sum := "018c81d93670c91a773f5a8da442e9015c97605590348ba4ad642b085cf07344", func := "loop.example/s0063/laws.FnChain", spec := "fnChain", unfollowed := true, recurses := true, plainKeys := false, apart := false }
def FnChainSaid : Prop := fnChainRow.holds Tryz.pinned (OpenSpec.ofChange fnChainSpec)

/-- ITS FALSE NEIGHBOUR: 'it returns false'. Refute it at one input. -/
def fnChainWrong : ChangeSpec := { name := "fnChain", fn := fun _ => fun
  | [d1, d2] => { results := [.lit (.bool false)], args := [d1, d2] }
  | _ => none }
def FnChainWrongFalsely : Prop := fnChainRow.holds Tryz.pinned (OpenSpec.ofChange fnChainWrong)

/-- 'laws.FnExactCompile': WHATEVER THE INPUT: true; the input reads as it did. -/
def fnExactCompileSpec : ChangeSpec := { name := "fnExactCompile", fn := fun _ => fun
  | [d1, d2] => { results := [.lit (.bool true)], args := [d1, d2] }
  | _ => none }
def fnExactCompileRow : OpenClaim := { program := "ytiimkhepplkocaagreat", sum := "018c81d93670c91a773f5a8da442e9015c97605590348ba4ad642b085cf07344", func := "loop.example/s0063/laws.FnExactCompile", spec := "fnExactCompile", unfollowed := true, recurses := true, plainKeys := false, apart := false }
def FnExactCompileSaid : Prop := fnExactCompileRow.holds Tryz.pinned (OpenSpec.ofChange fnExactCompileSpec)

/-- ITS FALSE NEIGHBOUR: 'it returns false'. Refute it at one input. -/
def fnExactCompileWrong : ChangeSpec := { name := "fnExactCompile", fn := fun _ => fun
  | [d1, d2] => { results := [.lit (.bool false)], args := [d1, d2] }
  | _ => none }
def FnExactCompileWrongFalsely : Prop := fnExactCompileRow.holds Tryz.pinned (OpenSpec.ofChange fnExactCompileWrong)

/-- 'laws.FnExactBoot': WHATEVER THE INPUT: true; the input reads as it did. -/
def fnExactBootSpec : ChangeSpec := { name := "fnExactBoot", fn := fun _ => fun
  | [d1, d2, d3] => { results := [.lit (.bool true)], args := [d1, d2, d3] }
  | _ => none }
def fnExactBootRow : OpenClaim := { program := "ytiimkhepplkocaagreat", sum := "018c81d93670c91a773f5a8da442e9015c97605590348ba4ad642b085cf07344", func := "loop.example/s0063/laws.FnExactBoot", spec := "fnExactBoot", unfollowed := true, recurses := true, plainKeys := false, apart := false }
def FnExactBootSaid : Prop := fnExactBootRow.holds Tryz.pinned (OpenSpec.ofChange fnExactBootSpec)

/-- ITS FALSE NEIGHBOUR: 'it returns false'. Refute it at one input. -/
def fnExactBootWrong : ChangeSpec := { name := "fnExactBoot", fn := fun _ => fun
  | [d1, d2, d3] => { results := [.lit (.bool false)], args := [d1, d2, d3] }
  | _ => none }
def FnExactBootWrongFalsely : Prop := fnExactBootRow.holds Tryz.pinned (OpenSpec.ofChange fnExactBootWrong)

/-- 'laws.FnExactDispatch': WHATEVER THE INPUT: true; the input reads as it did. -/
def fnExactDispatchSpec : ChangeSpec := { name := "fnExactDispatch", fn := fun _ => fun
  | [d1, d2, d3, d4, d5] => { results := [.lit (.bool true)], args := [d1, d2, d3, d4, d5] }
  | _ => none }
def fnExactDispatchRow : OpenClaim := { program := "ytiimkhepplkocaagreat", sum := "018c81d93670c91a773f5a8da442e9015c97605590348ba4ad642b085cf07344", func := "loop.example/s0063/laws.FnExactDispatch", spec := "fnExactDispatch", unfollowed := true, recurses := true, plainKeys := false, apart := false }
def FnExactDispatchSaid : Prop := fnExactDispatchRow.holds Tryz.pinned (OpenSpec.ofChange fnExactDispatchSpec)

/-- ITS FALSE NEIGHBOUR: 'it returns false'. Refute it at one input. -/
def fnExactDispatchWrong : ChangeSpec := { name := "fnExactDispatch", fn := fun _ => fun
  | [d1, d2, d3, d4, d5] => { results := [.lit (.bool false)], args := [d1, d2, d3, d4, d5] }
  | _ => none }
def FnExactDispatchWrongFalsely : Prop := fnExactDispatchRow.holds Tryz.pinned (OpenSpec.ofChange fnExactDispatchWrong)

/- THE SECOND FORM. 'bulk': how many values and letters a reading holds, each counted each time it is reached (what is shared counts as often as it is met; a slice's spare places count too). A statement '..UptoSaid' is the law's where the arguments, and the package variables that the reading takes, are together of bulk at most 1048576: NARROWER than '..Said'. Prove '..Said' where nothing that the law and all that it calls make is longer than what came in: it says more and counts as full. Else prove '..UptoSaid'. A law counts once. -/
mutual
def uptoBulk {H : Type} : DataW H → Nat
  | .lit (.string bytes) => bytes.length + 1
  | .lit _ => 1
  | .nil => 1
  | .ptr d => uptoBulk d + 1
  | .slice elems spare => uptoBulkAll elems + uptoBulkAll spare + 1
  | .agg parts => uptoBulkAll parts + 1
  | .iface _ d => uptoBulk d + 1
  | .map entries => uptoBulkEntries entries + 1
  | .held _ => 1
def uptoBulkAll {H : Type} : List (DataW H) → Nat
  | [] => 0
  | d :: r => uptoBulk d + uptoBulkAll r
def uptoBulkEntries {H : Type} : List (Lit × DataW H) → Nat
  | [] => 0
  | x :: r => uptoBulkEntry x + uptoBulkEntries r
def uptoBulkEntry {H : Type} : Lit × DataW H → Nat
  | (.string bytes, d) => bytes.length + uptoBulk d + 1
  | (_, d) => uptoBulk d + 1
 end
def uptoSmall : (H : Type) → List (DataW H) → Bool := fun _ ds => decide (uptoBulkAll ds ≤ 1048576)
def OpenSpec.upto (s : _root_.Go.ChangeSpec) : _root_.Go.OpenSpec := { _root_.Go.OpenSpec.ofChange s with cond := some uptoSmall }

/-- 'laws.FnTable', WHERE WHAT IT READS IS OF BULK AT MOST 1048576: true; the input reads as it did. -/
def fnTableUptoRow : OpenClaim := { program := "ytiimkhepplkocaagreat", sum := "018c81d93670c91a773f5a8da442e9015c97605590348ba4ad642b085cf07344", func := "loop.example/s0063/laws.FnTable", spec := "fnTable", unfollowed := true, recurses := true, plainKeys := false, apart := false, narrowed := true }
def FnTableUptoSaid : Prop := fnTableUptoRow.holds Tryz.pinned (OpenSpec.upto fnTableSpec)

/-- 'laws.FnChain', WHERE WHAT IT READS IS OF BULK AT MOST 1048576: true; the input reads as it did. -/
def fnChainUptoRow : OpenClaim := { program := "ytiimkhepplkocaagreat", sum := "018c81d93670c91a773f5a8da442e9015c97605590348ba4ad642b085cf07344", func := "loop.example/s0063/laws.FnChain", spec := "fnChain", unfollowed := true, recurses := true, plainKeys := false, apart := false, narrowed := true }
def FnChainUptoSaid : Prop := fnChainUptoRow.holds Tryz.pinned (OpenSpec.upto fnChainSpec)

/-- 'laws.FnExactCompile', WHERE WHAT IT READS IS OF BULK AT MOST 1048576: true; the input reads as it did. -/
def fnExactCompileUptoRow : OpenClaim := { program := "ytiimkhepplkocaagreat", sum := "018c81d93670c91a773f5a8da442e9015c97605590348ba4ad642b085cf07344", func := "loop.example/s0063/laws.FnExactCompile", spec := "fnExactCompile", unfollowed := true, recurses := true, plainKeys := false, apart := false, narrowed := true }
def FnExactCompileUptoSaid : Prop := fnExactCompileUptoRow.holds Tryz.pinned (OpenSpec.upto fnExactCompileSpec)

/-- 'laws.FnExactBoot', WHERE WHAT IT READS IS OF BULK AT MOST 1048576: true; the input reads as it did. -/
def fnExactBootUptoRow : OpenClaim := { program := "ytiimkhepplkocaagreat", sum := "018c81d93670c91a773f5a8da442e9015c97605590348ba4ad642b085cf07344", func := "loop.example/s0063/laws.FnExactBoot", spec := "fnExactBoot", unfollowed := true, recurses := true, plainKeys := false, apart := false, narrowed := true }
def FnExactBootUptoSaid : Prop := fnExactBootUptoRow.holds Tryz.pinned (OpenSpec.upto fnExactBootSpec)

/-- 'laws.FnExactDispatch', WHERE WHAT IT READS IS OF BULK AT MOST 1048576: true; the input reads as it did. -/
def fnExactDispatchUptoRow : OpenClaim := { program := "ytiimkhepplkocaagreat", sum := "018c81d93670c91a773f5a8da442e9015c97605590348ba4ad642b085cf07344", func := "loop.example/s0063/laws.FnExactDispatch", spec := "fnExactDispatch", unfollowed := true, recurses := true, plainKeys := false, apart := false, narrowed := true }
def FnExactDispatchUptoSaid : Prop := fnExactDispatchUptoRow.holds Tryz.pinned (OpenSpec.upto fnExactDispatchSpec)

end Rows
end Go.Proofs.YtiimkhepplkocaaGreat
