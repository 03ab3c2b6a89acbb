/-
  Own text: contracts of the reference's Place, Off, End and Set.
-/
import Derived.Test.YtdghfjngajhajabYAwake
namespace Go.Proofs.Ytdghfjngajhajab.M
open Go.ChangeShapes Go.WideShapes Go.ChangeAt Go.RowKit

end Go.Proofs.Ytdghfjngajhajab.M
