import Derived.Test.YtdojfommmpnbgaaGreatDoorKAD
import Derived.ProofKit
import Derived.SliceStrings
import Derived.OpenShut
import Derived.ShutString
import Derived.ChangeOld
import Derived.Below
import Derived.Lib.SmallJoins
namespace Go.Proofs.YtdojfommmpnbgaaGreatDoor
open Go.ChangeShapes Go.WideShapes Go.ChangeAt Go.RowKit Go.Joins Go.Proofs.Tryz
theorem FH:ownKnob Tryz.prog.godebug=none:=by kernel_rfl
theorem FG:laidOutB prog=true:=by kernel_rfl
theorem Eo:Tryz.prog.cellsOf 9=1:=by kernel_rfl
theorem DU{W:World}{x:Addr}{len:Nat}{ss:af}(hl:len≤ss.length)(hcell:∀i,i<ss.length→W.cell? (x.add i)=some (.string (ss.getD i ByteArray.empty)))(hws:∀s∈ss,s.size≤maxLen):aD W (some x) (ss.take len):=fun j hj=>by
 have hj':j<len:=by simp at hj;omega
 have hc:=hcell j (by omega);obtain⟨b,off,spot⟩:=x;have hspot:spot=none:=by
  have:=World.cell?_spot (hcell 0 (by omega));simpa[Addr.add]using this
 subst hspot;have hplain:(⟨b,off,none⟩:Addr).add j=⟨b,off+j,none⟩:=by unfold Addr.add;split<;>simp_all
 have he:(ss.take len)[j]=ss.getD j ByteArray.empty:=by
  rw[List.getElem_take,List.getD_eq_getElem?_getD,List.getElem?_eq_getElem (by omega)];rfl
 have hc':W.cell? ⟨b,off+j,none⟩=some (.string (ss.take len)[j]):=by rw[←hplain,he];exact hc
 refine⟨b,off,rfl,?_,hc',hws _ (List.mem_of_mem_take (List.getElem_mem hj))⟩;rcases Nat.lt_or_ge b W.heap.size with h|h
 ·exact h
 ·exfalso;have hn:W.heap[b]?=none:=Array.getElem?_eq_none h;simp[World.cell?,hn]at hc'
theorem Nn{H:Type}{enc:TypeId × Value→H}{W:World}{sp:Nat→Bool}{hd:Bool}{a:Option Addr}{len cap:Nat}{d:DataW H}{ps:List MemPlace}(h:DataW.Trod enc prog W 0 sp hd 22 (.slice a len cap) d ps) :
  ∃L:af,L.length=len∧aD W a L∧len≤maxLen:=by
 obtain⟨fuel,hf⟩:=h;rcases open_strings Tryz.underlying22 Tryz.underlying9 Eo hf with⟨hcs,_⟩|⟨x,l,c,ss,hcs,_,hl,hm,hz,_,hcell,hws⟩
 ·simp[Value.cells]at hcs;obtain⟨rfl,rfl,rfl⟩:=hcs;exact⟨[],rfl,fun j hj=>absurd hj (Nat.not_lt_zero _),Nat.zero_le _⟩
 ·simp[Value.cells]at hcs;obtain⟨rfl,rfl,rfl⟩:=hcs;have hle:len≤ss.length:=by rw[hz];split<;>omega
  exact⟨ss.take len,by simp;omega,DU hle hcell hws,by omega⟩
end Go.Proofs.YtdojfommmpnbgaaGreatDoor
