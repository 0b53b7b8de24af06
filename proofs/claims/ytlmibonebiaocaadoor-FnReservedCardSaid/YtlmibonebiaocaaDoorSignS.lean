/-
  What the model says of names, numbers and quoted texts: walked.
-/
import Derived.Test.YtlmibonebiaocaaDoorSignW
import Derived.Test.YtlmibonebiaocaaDoorKind
namespace Go.Proofs.YtlmibonebiaocaaDoor
open Go.RowKit

end Go.Proofs.YtlmibonebiaocaaDoor
