import Derived.Test.YtiimkhepplkocaaGreatQ0
import Derived.Deep.RegionWith
namespace Go.Proofs.YtiimkhepplkocaaGreat
open Go.RowKit Go.Sort

/-- What the nodes are walked with. -/
def MomAt (w : World) (mb : Nat) (vals : List Int) (arg : Int) : Prop :=
  mb < w.heap.size ∧ w.cell? ⟨mb, 2, none⟩ = some (.int .i64 arg) ∧ ∃ vo vn vc, w.cell? ⟨mb, 1, none⟩ = some (.slice vo vn vc) ∧ SliceOf w vo vn vals

theorem MomAt.below {w w' : World} {mb : Nat} {vals : List Int} {arg : Int} (h : MomAt w mb vals arg) (hb : Below w.heap.size w w') : MomAt w' mb vals arg := by
  obtain ⟨h1, h2, vo, vn, vc, h3, h4⟩ := h
  exact ⟨Nat.lt_of_lt_of_le h1 hb.size, (hb.cell (p := ⟨mb, 2, none⟩) h1).trans h2, vo, vn, vc, (hb.cell (p := ⟨mb, 1, none⟩) h1).trans h3, h4.below hb⟩

end Go.Proofs.YtiimkhepplkocaaGreat
namespace Go.Proofs.YtiimkhepplkocaaGreat
open Go.RowKit Go.Sort

def Both (w : World) (ly ry : Nat) (lx rx p : Value) (x y : Int) : Prop := ∀ w', Below w.heap.size w w' → Calls Tryz.prog 214 #[.agg #[.iface ly lx, .iface ry rx], p] w' fun e w'' => e = .returned (.tuple #[.int .i64 x, .int .i64 y]) ∧ Below w'.heap.size w' w''

end Go.Proofs.YtiimkhepplkocaaGreat
namespace Go.Proofs.YtiimkhepplkocaaGreat
open Go.RowKit Go.Sort

end Go.Proofs.YtiimkhepplkocaaGreat
