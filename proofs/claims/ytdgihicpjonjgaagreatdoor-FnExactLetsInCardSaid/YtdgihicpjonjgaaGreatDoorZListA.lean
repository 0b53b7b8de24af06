import Derived.Test.YtdgihicpjonjgaaGreatDoorZBase
namespace Go.Proofs.YtdgihicpjonjgaaGreatDoor
open Go.RowKit
def ArgT (w:World) (a:Option Addr) (L:List ByteArray):Prop:=∀ i (h:i < L.length),∃ sb off,a=some ⟨sb,off,none⟩∧sb < w.heap.size∧w.cell? ⟨sb,off+i,none⟩=some (.string L[i])∧L[i].size≤maxLen
theorem ArgT.call {w w':World} {a:Option Addr} {L:List ByteArray} (h:ArgT w a L) (hb:Below w.heap.size w w'):ArgT w' a L:=fun i hi=>by
 obtain ⟨sb,off,ha,hs,hc,hm⟩:=h i hi
 exact ⟨sb,off,ha,Nat.lt_of_lt_of_le hs hb.size,(hb.cell (p:=⟨sb,off+i,none⟩) hs).trans hc,hm⟩
end Go.Proofs.YtdgihicpjonjgaaGreatDoor
