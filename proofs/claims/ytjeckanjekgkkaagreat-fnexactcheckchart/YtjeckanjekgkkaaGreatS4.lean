import Derived.Test.YtjeckanjekgkkaaGreatS3
namespace Go.Proofs.YtjeckanjekgkkaaGreat
open Go.RowKit Go.Sort
attribute [local go_sem ↓] Go.wp_at_zero Go.wp_at_succ

end Go.Proofs.YtjeckanjekgkkaaGreat
