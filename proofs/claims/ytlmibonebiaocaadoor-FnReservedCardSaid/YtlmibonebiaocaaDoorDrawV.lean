/-
  The model's draws of Values: what is drawn is some Value with a text of at most 61 bytes; the cursor stays a cursor; nothing else has turned.
-/
import Derived.Test.YtlmibonebiaocaaDoorDrawB
namespace Go.Proofs.YtlmibonebiaocaaDoor
open Go.RowKit

/-- Some Value. -/
def SomeV (v : Value) : Prop := ∃ (k n : Int) (s : ByteArray), v = .agg #[.int .i64 k, .int .i64 n, .string s] ∧ s.size ≤ 61

end Go.Proofs.YtlmibonebiaocaaDoor
