import Derived.Test.YtdgihicpjonjgaaGreatDoorZRdTwo
import Derived.Test.YtdgihicpjonjgaaGreatDoorZBlks
namespace Go.Proofs.YtdgihicpjonjgaaGreatDoor
open Go.RowKit
theorem play_len' {L:List ByteArray} (h:playB L=true):L.length≤2000:=by
 unfold playB at h
 rw [Bool.and_eq_true] at h
 exact of_decide_eq_true h.1
theorem play_signs {L:List ByteArray} (h:playB L=true):signsB L=true:=by
 unfold playB at h
 rw [Bool.and_eq_true,Bool.and_eq_true] at h
 exact h.2.1
theorem own_low {w:World} {B B':Nat} {e:TypeId} {sz n:Nat} {v:Value} {xs:List Value} (h:w.ownsRow B e sz v n xs) (hb:B'≤B):w.ownsRow B' e sz v n xs:=by
 refine ⟨h.1,?_⟩
 rcases h.2 with hn | ⟨g,cap,cur,hv,hB,rest⟩
 ·exact .inl hn
 ·exact .inr ⟨g,cap,cur,hv,Nat.le_trans hb hB,rest⟩
theorem far_zero (L:List ByteArray):farN L 0=L.length+2:=by
 unfold farN
 rw [if_neg (by decide)]
 omega
theorem rowI_app {wr w3:World} {g g':Nat} {tmp:Obj} {av:Option Addr} {X:List Int} (h:RowI (fun k=>k=g) wr av X) (hg:(wr.alloc tmp).grownBy w3 (some g)) (hw:g'=g∨g'=(wr.alloc tmp).heap.size):RowI (fun k=>k=g') w3 av X:=fun i hi=>by
 obtain ⟨sb,off,h1,h2,h3,h4⟩:=h i hi
 have hz:=hg.size
 rw [World.size_alloc] at hz hw
 refine ⟨sb,off,h1,by omega,?_,?_⟩
 ·rcases hw with e | e
  ·rw [e];exact h3
  ·omega
 ·refine (World.cell?_of_block (w:=wr) (a:=⟨sb,off+i,none⟩) ?_).trans h4
  rw [hg.block sb (by simp;omega) (fun e=>h3 (by injection e)),Below.heap_alloc _ _ _ h2]
theorem RowN.one {B g:Nat} {w:World} {a:Option Addr} {X:List Int} (h:RowN B w a X) (hg:g < B):RowI (fun k=>k=g) w a X:=fun i hi=>by
 obtain ⟨sb,off,h1,h2,h3,h4⟩:=h i hi
 exact ⟨sb,off,h1,h2,by omega,h4⟩
end Go.Proofs.YtdgihicpjonjgaaGreatDoor
