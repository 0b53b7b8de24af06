/-
  The model's draws of any Value and of two Values: some Values; the cursor stays a cursor; nothing else has turned.
-/
import Derived.Test.YtlmibonebiaocaaDoorDrawV
namespace Go.Proofs.YtlmibonebiaocaaDoor
open Go.RowKit

end Go.Proofs.YtlmibonebiaocaaDoor
