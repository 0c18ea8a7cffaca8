import Derived.Test.YtdpejnacganadaaGreatK5
namespace Go.Proofs.YtdpejnacganadaaGreat
open Go.RowKit Go.Sort
attribute [local go_sem ↓] Go.wp_at_zero Go.wp_at_succ

theorem eqStmS_fit (ao bo : Option Addr) (n c d : Nat) (ss : List StmD) (w : World) (hf : Fits ss) (hx : StmsOf w ao n ss) (hy : StmsOf w bo n ss) :
    Calls Tryz.prog 12 #[.slice ao n c, .slice bo n d] w fun e w' => e = .returned (.bool true) ∧ Below w.heap.size w w' :=
  eqStmS_same ao bo n c d ss w (by rw [← hx.1]; exact hf.1) (by rw [← hx.1]; exact hf.2) hx hy

end Go.Proofs.YtdpejnacganadaaGreat
