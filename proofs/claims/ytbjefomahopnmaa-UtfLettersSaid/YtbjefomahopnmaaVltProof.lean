/-
  UtfLetters: for every row of numbers the law answers true. No conditions.
-/
import Derived.Test.YtbjefomahopnmaaVlt
import Derived.Test.YtbjefomahopnmaaPost
namespace Go.Proofs.Ytbjefomahopnmaa
open Go.ChangeShapes Go.WideShapes Go.ChangeAt Go.RowKit

end Go.Proofs.Ytbjefomahopnmaa
