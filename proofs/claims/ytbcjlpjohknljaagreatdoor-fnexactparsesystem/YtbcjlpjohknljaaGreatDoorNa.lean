import Derived.Test.YtbcjlpjohknljaaGreatDoorKa
import Derived.BigQuiet
import Derived.Deep.OwnRows
import Derived.Deep.QuietTactic
import Derived.Laws.EntriesVeiled
import Derived.Lib.QuietBelow
import Derived.WalkKit
import Derived.WalkLawsBesides
import Derived.WalkSpells
import Derived.Deep.Trees
import Derived.WalkSmall
namespace Go.Proofs.YtbcjlpjohknljaaGreatDoor
open Go.RowKit
open Go.RowKit Go.Sort

/-- A number taken to its kind. -/
def conv (k v : Int) : Int :=
  if k = 1 then (v + 128) % 256 - 128 else if k = 2 then (v + 32768) % 65536 - 32768 else if k = 3 then (v + 2147483648) % 4294967296 - 2147483648
  else if k = 4 then v else if k = 5 then v % 256 else if k = 6 then v % 65536 else if k = 7 then v % 4294967296 else 0

end Go.Proofs.YtbcjlpjohknljaaGreatDoor
namespace Go.Proofs.YtbcjlpjohknljaaGreatDoor
open Go.RowKit Go.Sort

end Go.Proofs.YtbcjlpjohknljaaGreatDoor
namespace Go.Proofs.YtbcjlpjohknljaaGreatDoor
attribute [local go_sem ↓] Go.wp_at_zero Go.wp_at_succ
open Go.RowKit Go.Sort

end Go.Proofs.YtbcjlpjohknljaaGreatDoor
namespace Go.Proofs.YtbcjlpjohknljaaGreatDoor
attribute [local go_sem ↓] Go.wp_at_zero Go.wp_at_succ
open Go.RowKit Go.Sort

end Go.Proofs.YtbcjlpjohknljaaGreatDoor
namespace Go.Proofs.YtbcjlpjohknljaaGreatDoor
attribute [local go_sem ↓] Go.wp_at_zero Go.wp_at_succ
open Go.RowKit Go.Sort

end Go.Proofs.YtbcjlpjohknljaaGreatDoor
namespace Go.Proofs.YtbcjlpjohknljaaGreatDoor
open Go.RowKit Go.Sort

end Go.Proofs.YtbcjlpjohknljaaGreatDoor
namespace Go.Proofs.YtbcjlpjohknljaaGreatDoor
open Go.RowKit Go.Sort

end Go.Proofs.YtbcjlpjohknljaaGreatDoor
namespace Go.Proofs.YtbcjlpjohknljaaGreatDoor

end Go.Proofs.YtbcjlpjohknljaaGreatDoor
