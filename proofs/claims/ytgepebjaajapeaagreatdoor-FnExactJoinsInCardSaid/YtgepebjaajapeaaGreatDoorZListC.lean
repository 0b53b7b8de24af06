/-
  Lists of texts that came in, and a copy of them (ListB), with whether each is a sign (ListW).
-/
import Derived.Test.YtgepebjaajapeaaGreatDoorZSignC
import Derived.Test.YtgepebjaajapeaaGreatDoorZListB
namespace Go.Proofs.YtgepebjaajapeaaGreatDoor

end Go.Proofs.YtgepebjaajapeaaGreatDoor
