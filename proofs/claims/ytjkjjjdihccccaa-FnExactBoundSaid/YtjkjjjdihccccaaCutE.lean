/-
  Where a sign ends, by the model; which bytes end a word, by the program.
-/
import Derived.Test.YtjkjjjdihccccaaSignK
import Derived.Test.YtjkjjjdihccccaaCuts
namespace Go.Proofs.Ytjkjjjdihccccaa
open Go.RowKit

end Go.Proofs.Ytjkjjjdihccccaa
