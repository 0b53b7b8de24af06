/-
  Where a sign ends, by the model; which bytes end a word, by the program.
-/
import Derived.Test.YtefgmhlpcfmhlaaDoorSignK
import Derived.Test.YtefgmhlpcfmhlaaDoorCuts
namespace Go.Proofs.YtefgmhlpcfmhlaaDoor
open Go.RowKit

end Go.Proofs.YtefgmhlpcfmhlaaDoor
