/-
  Lists of texts that came in, and a copy of them (ListB), with whether each is a sign (ListW).
-/
import Derived.Test.YtlmodefajpkakaaGreatDoorZSignC
import Derived.Test.YtlmodefajpkakaaGreatDoorZListB
namespace Go.Proofs.YtlmodefajpkakaaGreatDoor

end Go.Proofs.YtlmodefajpkakaaGreatDoor
