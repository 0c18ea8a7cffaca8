/-
  No cell of these rows narrows 'for every input' (looked for: loops, veiled, ifaces, maps, wideKeys, modest, calm, conditions, laid).
  DERIVED. THE GIVEN ROWS OF THIS SEAT. 5 by the template 'for every input the law returns true; each argument reads behind the call as it read before'; 0 by the template 'total and deterministic' (their statements: YtdpejnacganadaaTotals.lean).
  GIVEN WITH THE SEED: the statements are not yours to turn. If you find one false, say at which input.
  Laid BY PROGRAM, IN A SANDBOX (cutbox-rows.mjs): the forced cells as the released guide's own fill.sh prints them over the translation af96c5b9af3733c0… (all of the seat's roots in one cut). By AI agents, Wed Nov 11 2026. No macro, syntax, notation, axiom, sorry.
-/
import Derived.Test.YtdpejnacganadaaChecked
import GoSem.Claim
import GoSem.ClaimJoined
import GoSem.ClaimMapViews
import Derived.JoinedTies
import Derived.KernelRfl
namespace Go.Proofs.Ytdpejnacganadaa
/- THE CELL 'sum', in the pinned program and in every row, IS THE sha256 OF THE DUMP (.gsa) THAT YtdpejnacganadaaProg.lean LOADS. Nothing in Lean hashes anything: it is a label: what it is worth is what the hold of that sum in a sandbox is worth. -/
noncomputable def Try.pinned : Pinned := { name := "ytdpejnacganadaa", sum := "af96c5b9af3733c02d8ff60307ca90ee3f93be15244bed20b5170a182ee34086", checked := Try.checked }
namespace Rows
def none {H : Type} : Left H := { results := [], args := [] }

/-- 'laws.FnWidths': WHATEVER THE INPUT: true; the input reads as it did. -/
def fnWidthsSpec : ChangeSpec := { name := "fnWidths", fn := fun _ => fun
  | [d1, d2] => { results := [.lit (.bool true)], args := [d1, d2] }
  | _ => none }
def fnWidthsRow : OpenClaim := { program := "ytdpejnacganadaa", sum := "af96c5b9af3733c02d8ff60307ca90ee3f93be15244bed20b5170a182ee34086", func := "loop.example/s0063/laws.FnWidths", spec := "fnWidths", unfollowed := true, recurses := true, apart := false }
def FnWidthsSaid : Prop := fnWidthsRow.holds Try.pinned (OpenSpec.ofChange fnWidthsSpec)

/-- ITS FALSE NEIGHBOUR: 'it returns false'. Refute it at one input. -/
def fnWidthsWrong : ChangeSpec := { name := "fnWidths", fn := fun _ => fun
  | [d1, d2] => { results := [.lit (.bool false)], args := [d1, d2] }
  | _ => none }
def FnWidthsWrongFalsely : Prop := fnWidthsRow.holds Try.pinned (OpenSpec.ofChange fnWidthsWrong)

/-- 'laws.FnExactCodeOK': WHATEVER THE INPUT: true; the input reads as it did. -/
def fnExactCodeOKSpec : ChangeSpec := { name := "fnExactCodeOK", fn := fun _ => fun
  | [d1, d2] => { results := [.lit (.bool true)], args := [d1, d2] }
  | _ => none }
def fnExactCodeOKRow : OpenClaim := { program := "ytdpejnacganadaa", sum := "af96c5b9af3733c02d8ff60307ca90ee3f93be15244bed20b5170a182ee34086", func := "loop.example/s0063/laws.FnExactCodeOK", spec := "fnExactCodeOK", unfollowed := true, recurses := true, apart := false }
def FnExactCodeOKSaid : Prop := fnExactCodeOKRow.holds Try.pinned (OpenSpec.ofChange fnExactCodeOKSpec)

/-- ITS FALSE NEIGHBOUR: 'it returns false'. Refute it at one input. -/
def fnExactCodeOKWrong : ChangeSpec := { name := "fnExactCodeOK", fn := fun _ => fun
  | [d1, d2] => { results := [.lit (.bool false)], args := [d1, d2] }
  | _ => none }
def FnExactCodeOKWrongFalsely : Prop := fnExactCodeOKRow.holds Try.pinned (OpenSpec.ofChange fnExactCodeOKWrong)

/-- 'laws.FnExactStmsOK': WHATEVER THE INPUT: true; the input reads as it did. -/
def fnExactStmsOKSpec : ChangeSpec := { name := "fnExactStmsOK", fn := fun _ => fun
  | [d1, d2] => { results := [.lit (.bool true)], args := [d1, d2] }
  | _ => none }
def fnExactStmsOKRow : OpenClaim := { program := "ytdpejnacganadaa", sum := "af96c5b9af3733c02d8ff60307ca90ee3f93be15244bed20b5170a182ee34086", func := "loop.example/s0063/laws.FnExactStmsOK", spec := "fnExactStmsOK", unfollowed := true, recurses := true, apart := false }
def FnExactStmsOKSaid : Prop := fnExactStmsOKRow.holds Try.pinned (OpenSpec.ofChange fnExactStmsOKSpec)

/-- ITS FALSE NEIGHBOUR: 'it returns false'. Refute it at one input. -/
def fnExactStmsOKWrong : ChangeSpec := { name := "fnExactStmsOK", fn := fun _ => fun
  | [d1, d2] => { results := [.lit (.bool false)], args := [d1, d2] }
  | _ => none }
def FnExactStmsOKWrongFalsely : Prop := fnExactStmsOKRow.holds Try.pinned (OpenSpec.ofChange fnExactStmsOKWrong)

/-- 'laws.FnExactBankOK': WHATEVER THE INPUT: true; the input reads as it did. -/
def fnExactBankOKSpec : ChangeSpec := { name := "fnExactBankOK", fn := fun _ => fun
  | [d] => { results := [.lit (.bool true)], args := [d] }
  | _ => none }
def fnExactBankOKRow : OpenClaim := { program := "ytdpejnacganadaa", sum := "af96c5b9af3733c02d8ff60307ca90ee3f93be15244bed20b5170a182ee34086", func := "loop.example/s0063/laws.FnExactBankOK", spec := "fnExactBankOK", unfollowed := true, recurses := true, apart := false }
def FnExactBankOKSaid : Prop := fnExactBankOKRow.holds Try.pinned (OpenSpec.ofChange fnExactBankOKSpec)

/-- ITS FALSE NEIGHBOUR: 'it returns false'. Refute it at one input. -/
def fnExactBankOKWrong : ChangeSpec := { name := "fnExactBankOK", fn := fun _ => fun
  | [d] => { results := [.lit (.bool false)], args := [d] }
  | _ => none }
def FnExactBankOKWrongFalsely : Prop := fnExactBankOKRow.holds Try.pinned (OpenSpec.ofChange fnExactBankOKWrong)

/-- 'laws.FnExactEval': WHATEVER THE INPUT: true; the input reads as it did. -/
def fnExactEvalSpec : ChangeSpec := { name := "fnExactEval", fn := fun _ => fun
  | [d1, d2, d3] => { results := [.lit (.bool true)], args := [d1, d2, d3] }
  | _ => none }
def fnExactEvalRow : OpenClaim := { program := "ytdpejnacganadaa", sum := "af96c5b9af3733c02d8ff60307ca90ee3f93be15244bed20b5170a182ee34086", func := "loop.example/s0063/laws.FnExactEval", spec := "fnExactEval", unfollowed := true, recurses := true, apart := false }
def FnExactEvalSaid : Prop := fnExactEvalRow.holds Try.pinned (OpenSpec.ofChange fnExactEvalSpec)

/-- ITS FALSE NEIGHBOUR: 'it returns false'. Refute it at one input. -/
def fnExactEvalWrong : ChangeSpec := { name := "fnExactEval", fn := fun _ => fun
  | [d1, d2, d3] => { results := [.lit (.bool false)], args := [d1, d2, d3] }
  | _ => none }
def FnExactEvalWrongFalsely : Prop := fnExactEvalRow.holds Try.pinned (OpenSpec.ofChange fnExactEvalWrong)

/- THE SECOND FORM. 'bulk': how many values and letters a reading holds, each counted each time it is reached (what is shared counts as often as it is met; a slice's spare places count too). A statement '..UptoSaid' is the law's where the arguments, and the package variables that the reading takes, are together of bulk at most 1048576: NARROWER than '..Said'. Prove '..Said' where nothing that the law and all that it calls make is longer than what came in: it says more and counts as full. Else prove '..UptoSaid'. A law counts once. -/
mutual
def uptoBulk {H : Type} : DataW H → Nat
  | .lit (.string bytes) => bytes.length + 1
  | .lit _ => 1
  | .nil => 1
  | .ptr d => uptoBulk d + 1
  | .slice elems spare => uptoBulkAll elems + uptoBulkAll spare + 1
  | .agg parts => uptoBulkAll parts + 1
  | .iface _ d => uptoBulk d + 1
  | .map entries => uptoBulkEntries entries + 1
  | .held _ => 1
def uptoBulkAll {H : Type} : List (DataW H) → Nat
  | [] => 0
  | d :: r => uptoBulk d + uptoBulkAll r
def uptoBulkEntries {H : Type} : List (Lit × DataW H) → Nat
  | [] => 0
  | x :: r => uptoBulkEntry x + uptoBulkEntries r
def uptoBulkEntry {H : Type} : Lit × DataW H → Nat
  | (.string bytes, d) => bytes.length + uptoBulk d + 1
  | (_, d) => uptoBulk d + 1
 end
def uptoSmall : (H : Type) → List (DataW H) → Bool := fun _ ds => decide (uptoBulkAll ds ≤ 1048576)
def OpenSpec.upto (s : _root_.Go.ChangeSpec) : _root_.Go.OpenSpec := { _root_.Go.OpenSpec.ofChange s with cond := some uptoSmall }

/-- 'laws.FnWidths', WHERE WHAT IT READS IS OF BULK AT MOST 1048576: true; the input reads as it did. -/
def fnWidthsUptoRow : OpenClaim := { program := "ytdpejnacganadaa", sum := "af96c5b9af3733c02d8ff60307ca90ee3f93be15244bed20b5170a182ee34086", func := "loop.example/s0063/laws.FnWidths", spec := "fnWidths", unfollowed := true, recurses := true, apart := false, narrowed := true }
def FnWidthsUptoSaid : Prop := fnWidthsUptoRow.holds Try.pinned (OpenSpec.upto fnWidthsSpec)

/-- 'laws.FnExactCodeOK', WHERE WHAT IT READS IS OF BULK AT MOST 1048576: true; the input reads as it did. -/
def fnExactCodeOKUptoRow : OpenClaim := { program := "ytdpejnacganadaa", sum := "af96c5b9af3733c02d8ff60307ca90ee3f93be15244bed20b5170a182ee34086", func := "loop.example/s0063/laws.FnExactCodeOK", spec := "fnExactCodeOK", unfollowed := true, recurses := true, apart := false, narrowed := true }
def FnExactCodeOKUptoSaid : Prop := fnExactCodeOKUptoRow.holds Try.pinned (OpenSpec.upto fnExactCodeOKSpec)

/-- 'laws.FnExactStmsOK', WHERE WHAT IT READS IS OF BULK AT MOST 1048576: true; the input reads as it did. -/
def fnExactStmsOKUptoRow : OpenClaim := { program := "ytdpejnacganadaa", sum := "af96c5b9af3733c02d8ff60307ca90ee3f93be15244bed20b5170a182ee34086", func := "loop.example/s0063/laws.FnExactStmsOK", spec := "fnExactStmsOK", unfollowed := true, recurses := true, apart := false, narrowed := true }
def FnExactStmsOKUptoSaid : Prop := fnExactStmsOKUptoRow.holds Try.pinned (OpenSpec.upto fnExactStmsOKSpec)

/-- 'laws.FnExactBankOK', WHERE WHAT IT READS IS OF BULK AT MOST 1048576: true; the input reads as it did. -/
def fnExactBankOKUptoRow : OpenClaim := { program := "ytdpejnacganadaa", sum := "af96c5b9af3733c02d8ff60307ca90ee3f93be15244bed20b5170a182ee34086", func := "loop.example/s0063/laws.FnExactBankOK", spec := "fnExactBankOK", unfollowed := true, recurses := true, apart := false, narrowed := true }
def FnExactBankOKUptoSaid : Prop := fnExactBankOKUptoRow.holds Try.pinned (OpenSpec.upto fnExactBankOKSpec)

/-- 'laws.FnExactEval', WHERE WHAT IT READS IS OF BULK AT MOST 1048576: true; the input reads as it did. -/
def fnExactEvalUptoRow : OpenClaim := { program := "ytdpejnacganadaa", sum := "af96c5b9af3733c02d8ff60307ca90ee3f93be15244bed20b5170a182ee34086", func := "loop.example/s0063/laws.FnExactEval", spec := "fnExactEval", unfollowed := true, recurses := true, apart := false, narrowed := true }
def FnExactEvalUptoSaid : Prop := fnExactEvalUptoRow.holds Try.pinned (OpenSpec.upto fnExactEvalSpec)

end Rows
end Go.Proofs.Ytdpejnacganadaa
