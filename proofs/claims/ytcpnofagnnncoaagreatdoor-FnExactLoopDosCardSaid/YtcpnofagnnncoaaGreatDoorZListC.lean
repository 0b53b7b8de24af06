/-
  Lists of texts that came in, and a copy of them (ListB), with whether each is a sign (ListW).
-/
import Derived.Test.YtcpnofagnnncoaaGreatDoorZSignC
import Derived.Test.YtcpnofagnnncoaaGreatDoorZListB
namespace Go.Proofs.YtcpnofagnnncoaaGreatDoor

end Go.Proofs.YtcpnofagnnncoaaGreatDoor
