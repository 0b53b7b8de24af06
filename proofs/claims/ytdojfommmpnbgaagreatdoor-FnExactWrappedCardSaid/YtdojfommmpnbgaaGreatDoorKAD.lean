import Derived.Test.YtdojfommmpnbgaaGreatDoorKAA
import Derived.Laws.OwnMore
import Derived.OwnWalk
namespace Go.Proofs.YtdojfommmpnbgaaGreatDoor
open Go.RowKit
def aD(w:World)(a:Option Addr)(L:af):Prop:=∀i (h:i<L.length),∃sb off,a=some ⟨sb,off,none⟩∧sb<w.heap.size∧w.cell? ⟨sb,off+i,none⟩=some (.string L[i])∧L[i].size≤maxLen
theorem aD.call{w w':World}{a:Option Addr}{L:af}(h:aD w a L)(hb:ai w w'):aD w' a L:=fun i hi=>by
 obtain⟨sb,off,ha,hs,hc,hm⟩:=h i hi;exact⟨sb,off,ha,Nat.lt_of_lt_of_le hs hb.size,(hb.cell (p:=⟨sb,off+i,none⟩) hs).trans hc,hm⟩
structure aE (S S':Nat→Prop) (w w':World):Prop where
 os:w'.os=w.os
 tape:w'.tape=w.tape
 output:w'.output=w.output
 size:w.heap.size≤w'.heap.size
 block:∀k,k<w.heap.size→¬S k→w'.heap[k]?=w.heap[k]?
 sub:∀k,S' k→S k∨w.heap.size≤k
section
variable {S S' S'':Nat→Prop} {w w' w'':World}
theorem aE.refl(S:Nat→Prop)(w:World):aE S S w w:=⟨rfl,rfl,rfl,Nat.le_refl _,fun _ _ _=>rfl,fun _ h=>Or.inl h⟩
theorem aE.trans(h:aE S S' w w')(k:aE S' S'' w' w''):aE S S'' w w'' :=
 ⟨k.os.trans h.os,k.tape.trans h.tape,k.output.trans h.output,Nat.le_trans h.size k.size,fun i hi hn=>(k.block i (Nat.lt_of_lt_of_le hi h.size) (fun hs=>(h.sub i hs).elim hn (fun hx=>by omega))).trans (h.block i hi hn),fun i hs=>(k.sub i hs).elim (fun hx=>h.sub i hx) (fun hx=>Or.inr (Nat.le_trans h.size hx))⟩
theorem aE.j(S:Nat→Prop)(h:ai w w'):aE S S w w':=⟨h.os,h.tape,h.output,h.size,fun k hk _=>h.block k hk,fun _ hs=>Or.inl hs⟩
theorem aE.cell(h:aE S S' w w'){b:Nat}(o:Nat)(hb:b<w.heap.size)(hn:¬S b):w'.cell? ⟨b,o,none⟩=w.cell? ⟨b,o,none⟩:=World.cell?_of_block (w:=w) (a:=⟨b,o,none⟩) (h.block b hb hn)
theorem aE.frozen(h:aE S S' w w'){b:Nat}(o:Nat)(hb:b<w.heap.size)(hn:¬S b):w'.frozen? ⟨b,o,none⟩=w.frozen? ⟨b,o,none⟩:=World.frozen?_of_block (w:=w) (a:=⟨b,o,none⟩) (h.block b hb hn)
theorem aE.not(h:aE S S' w w'){b:Nat}(hb:b<w.heap.size)(hn:¬S b):¬S' b:=fun hs=>(h.sub b hs).elim hn (fun hx=>by omega)
theorem aE.grown(S:Nat→Prop){row:Option Nat}(hg:w.grownBy w' row)(hr:∀k,row=some k→S k):aE S S w w' :=
 ⟨hg.os,hg.tape,hg.output,hg.size,fun k hk hn=>hg.block k hk (fun e=>hn (hr k e.symm)),fun _ hs=>Or.inl hs⟩
theorem aE.set(S:Nat→Prop)(w:World){p:Addr}(u:Value)(hp:S p.block):aE S S w (w.setCell p u) :=
 ⟨rfl,rfl,rfl,by simp[World.setCell],fun k _ hn=>Below.heap_setCell w p u k (fun e=>hn (by rw[e];exact hp)),fun _ hs=>Or.inl hs⟩
theorem aE.below{n0:Nat}(h:aE S S' w w')(hl:∀k,S k→n0≤k)(hz:n0≤w.heap.size):Below n0 w w':=⟨h.os,h.tape,h.output,h.size,fun k hk=>h.block k (by omega) (fun hs=>by have:=hl k hs;omega)⟩
theorem aE.mono{T:Nat→Prop}(h:aE S S' w w')(hT:∀k,T k→S' k):aE S T w w':=⟨h.os,h.tape,h.output,h.size,h.block,fun k hk=>h.sub k (hT k hk)⟩
end
def dq(w:World)(B:Nat)(v:Value)(L:af):Prop:=w.ownsRow B 9 1 v L.length (L.map Value.string)
theorem dq.call{w w':World}{B:Nat}{v:Value}{L:af}(h:dq w B v L)(hb:ai w w'):dq w' B v L:=by
 refine⟨h.1,?_⟩;rcases h.2 with hn|⟨g,cap,cur,rfl,hB,hg,rest⟩
 ·exact .inl hn
 ·have hlt:g<w.heap.size:=(Array.getElem?_eq_some_iff.1 hg).1;exact .inr ⟨g,cap,cur,rfl,hB,(hb.block g hlt).trans hg,rest⟩
theorem dq.shape{w:World}{B:Nat}{v:Value}{L:af}(h:dq w B v L):∃a cap,v=.slice a L.length cap:=by
 rcases h.2 with⟨rfl,hn⟩|⟨g,cap,cur,rfl,_⟩
 ·exact⟨none,0,by rw[hn]⟩
 ·exact⟨_,cap,rfl⟩
theorem Ki(w:World)(B:Nat)(h:B≤w.heap.size):dq (w.alloc (.cells #[] 9)) B (.slice (some ⟨w.heap.size,0,none⟩) 0 0) [] :=
 World.ownsRow_made w #[] 0 h (by unfold maxLen;omega) rfl
theorem dq.arg{w:World}{B:Nat}{v:Value}{L:af}(h:dq w B v L)(hm:∀i (h:i<L.length),L[i].size≤maxLen):∃a cap,v=.slice a L.length cap∧aD w a L∧L.length≤cap:=by
 rcases id h.2 with⟨rfl,hn⟩|⟨g,cap,cur,rfl,_,hg,hc,_,_,_⟩
 ·have e:L=[]:=List.length_eq_zero_iff.1 hn;subst e;exact⟨none,0,rfl,fun i hi=>absurd hi (Nat.not_lt_zero _),Nat.le_refl _⟩
 ·refine⟨_,cap,rfl,fun i hi=>⟨g,0,rfl,(Array.getElem?_eq_some_iff.1 hg).1,?_,hm i hi⟩,hc⟩;have hcell:=World.ownsRow.cells (w:=w) h (g:=g) rfl (j:=i) (u:=.string L[i]) (by simp[hi]);have hplain:(⟨g,0,none⟩:Addr).add i=⟨g,0+i,none⟩:=by unfold Addr.add;split<;>simp_all
  rw[hplain]at hcell;exact hcell
end Go.Proofs.YtdojfommmpnbgaaGreatDoor
