import Derived.Test.YtdgihicpjonjgaaGreatDoorZPlain
import Derived.Test.YtdgihicpjonjgaaGreatDoorZMaps
import Derived.Test.YtdgihicpjonjgaaGreatDoorZNxtW
import Derived.Test.YtdgihicpjonjgaaGreatDoorZReadV
import Derived.Laws.OwnMore
namespace Go.Proofs.YtdgihicpjonjgaaGreatDoor
open Go.RowKit
def ArgS (S:Nat→Prop) (w:World) (a:Option Addr) (L:List ByteArray):Prop:=(∀ i (h:i < L.length),∃ sb off,a=some ⟨sb,off,none⟩∧sb < w.heap.size∧¬ S sb∧w.cell? ⟨sb,off+i,none⟩=some (.string L[i])∧L[i].size≤maxLen)∧∀ S' W,Nxt S S' w W→Tab W
theorem ArgS.nxt {S S':Nat→Prop} {w w':World} {a:Option Addr} {L:List ByteArray} (h:ArgS S w a L) (hb:Nxt S S' w w'):ArgS S' w' a L:=⟨fun i hi=>by
 obtain ⟨sb,off,ha,hs,hn,hc,hm⟩:=h.1 i hi
 exact ⟨sb,off,ha,Nat.lt_of_lt_of_le hs hb.size,hb.not hs hn,(hb.cell _ hs hn).trans hc,hm⟩,fun S'' W hW=>h.2 S'' W (hb.trans hW)⟩
theorem ArgS.tab {S:Nat→Prop} {w:World} {a:Option Addr} {L:List ByteArray} (h:ArgS S w a L):Tab w:=h.2 S w (Nxt.refl S w)
theorem ArgS.arg {S:Nat→Prop} {w:World} {a:Option Addr} {L:List ByteArray} (h:ArgS S w a L):ArgT w a L:=fun i hi=>by
 obtain ⟨sb,off,ha,hs,hn,hc,hm⟩:=h.1 i hi
 exact ⟨sb,off,ha,hs,hc,hm⟩
theorem ArgS.at {S:Nat→Prop} {w:World} {a:Option Addr} {L:List ByteArray} (h:ArgS S w a L) {i:Int} (h0:0≤i) (h1:i < (L.length:Int)):∃ sb off,a=some ⟨sb,off,none⟩∧w.cell? ⟨sb,off+i.toNat,none⟩=some (.string (sgAt L i))∧(sgAt L i).size≤maxLen∧sb < w.heap.size∧¬ S sb:=by
 obtain ⟨sb,off,ha,hs,hn,hc,hm⟩:=h.1 i.toNat (by omega)
 rw [sgAt_in h0 h1]
 exact ⟨sb,off,ha,hc,hm,hs,hn⟩
def RowI (S:Nat→Prop) (w:World) (a:Option Addr) (X:List Int):Prop:=∀ i (h:i < X.length),∃ sb off,a=some ⟨sb,off,none⟩∧sb < w.heap.size∧¬ S sb∧w.cell? ⟨sb,off+i,none⟩=some (.int .i64 X[i])
theorem RowI.nxt {S S':Nat→Prop} {w w':World} {a:Option Addr} {X:List Int} (h:RowI S w a X) (hb:Nxt S S' w w'):RowI S' w' a X:=fun i hi=>by
 obtain ⟨sb,off,ha,hs,hn,hc⟩:=h i hi
 exact ⟨sb,off,ha,Nat.lt_of_lt_of_le hs hb.size,hb.not hs hn,(hb.cell _ hs hn).trans hc⟩
theorem RowI.call {S:Nat→Prop} {w w':World} {a:Option Addr} {X:List Int} (h:RowI S w a X) (hb:Below w.heap.size w w'):RowI S w' a X:=h.nxt (Nxt.of_below S hb)
end Go.Proofs.YtdgihicpjonjgaaGreatDoor
