/-
  The model: where a name stands in a list.
-/
import Derived.Test.YtefgmhlpcfmhlaaFreeW
namespace Go.Proofs.Ytefgmhlpcfmhlaa
open Go.RowKit

theorem Lst.txt {c sb off n cap : Nat} {w : World} {X : List ByteArray} (h : Lst c w (.slice (some ⟨sb, off, none⟩) n cap) X) : Txt sb off X w := fun i hi => by
  rcases h with ⟨h, _⟩ | ⟨sb', off', cap', hv, h1, h2, h3, h4, h5⟩
  · cases h
  · injection hv with ha _ hc
    injection ha with ha
    injection ha with e1 e2 _
    subst e1 e2
    exact (h5 i hi).1

end Go.Proofs.Ytefgmhlpcfmhlaa
