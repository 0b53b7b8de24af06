/-
  Where a sign ends, by the model; which bytes end a word, by the program.
-/
import Derived.Test.YtefgmhlpcfmhlaaSignK
import Derived.Test.YtefgmhlpcfmhlaaCuts
namespace Go.Proofs.Ytefgmhlpcfmhlaa
open Go.RowKit

end Go.Proofs.Ytefgmhlpcfmhlaa
