/-
  Lists of texts that came in, and a copy of them (ListB), with whether each is a sign (ListW).
-/
import Derived.Test.YtjhjhiiiiimpoaaGreatDoorZSignC
import Derived.Test.YtjhjhiiiiimpoaaGreatDoorZListB
namespace Go.Proofs.YtjhjhiiiiimpoaaGreatDoor

end Go.Proofs.YtjhjhiiiiimpoaaGreatDoor
