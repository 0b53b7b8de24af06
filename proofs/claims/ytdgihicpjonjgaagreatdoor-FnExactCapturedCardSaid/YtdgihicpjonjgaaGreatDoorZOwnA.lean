import Derived.Test.YtdgihicpjonjgaaGreatDoorZListA
import Derived.OwnWalk
namespace Go.Proofs.YtdgihicpjonjgaaGreatDoor
open Go.RowKit
def OwnT (w:World) (B:Nat) (v:Value) (L:List ByteArray):Prop:=w.ownsRow B 9 1 v L.length (L.map Value.string)
theorem OwnT.call {w w':World} {B:Nat} {v:Value} {L:List ByteArray} (h:OwnT w B v L) (hb:Below w.heap.size w w'):OwnT w' B v L:=by
 refine ⟨h.1,?_⟩
 rcases h.2 with hn | ⟨g,cap,cur,rfl,hB,hg,rest⟩
 ·exact .inl hn
 ·have hlt:g < w.heap.size:=(Array.getElem?_eq_some_iff.1 hg).1
  exact .inr ⟨g,cap,cur,rfl,hB,(hb.block g hlt).trans hg,rest⟩
theorem OwnT.shape {w:World} {B:Nat} {v:Value} {L:List ByteArray} (h:OwnT w B v L):∃ a cap,v=.slice a L.length cap:=by
 rcases h.2 with ⟨rfl,hn⟩ | ⟨g,cap,cur,rfl,_⟩
 ·exact ⟨none,0,by rw [hn]⟩
 ·exact ⟨_,cap,rfl⟩
theorem ownT_new (w:World) (B:Nat) (h:B≤w.heap.size):OwnT (w.alloc (.cells #[] 9)) B (.slice (some ⟨w.heap.size,0,none⟩) 0 0) [] :=
 World.ownsRow_made w #[] 0 h (by unfold maxLen;omega) rfl
theorem OwnT.arg {w:World} {B:Nat} {v:Value} {L:List ByteArray} (h:OwnT w B v L) (hm:∀ i (h:i < L.length),L[i].size≤maxLen):∃ a cap,v=.slice a L.length cap∧ArgT w a L∧L.length≤cap:=by
 rcases id h.2 with ⟨rfl,hn⟩ | ⟨g,cap,cur,rfl,_,hg,hc,_,_,_⟩
 ·have e:L=[]:=List.length_eq_zero_iff.1 hn
  subst e
  exact ⟨none,0,rfl,fun i hi=>absurd hi (Nat.not_lt_zero _),Nat.le_refl _⟩
 ·refine ⟨_,cap,rfl,fun i hi=>⟨g,0,rfl,(Array.getElem?_eq_some_iff.1 hg).1,?_,hm i hi⟩,hc⟩
  have hcell:=World.ownsRow.cells (w:=w) h (g:=g) rfl (j:=i) (u:=.string L[i]) (by simp [hi])
  have hplain:(⟨g,0,none⟩:Addr).add i=⟨g,0+i,none⟩:=by unfold Addr.add;split <;> simp_all
  rw [hplain] at hcell
  exact hcell
end Go.Proofs.YtdgihicpjonjgaaGreatDoor
