import Derived.Test.YtdgihicpjonjgaaGreatDoorZEnds
import Derived.Test.YtdgihicpjonjgaaGreatDoorZItems
import Derived.Test.YtdgihicpjonjgaaGreatDoorZForms
namespace Go.Proofs.YtdgihicpjonjgaaGreatDoor
open Go.RowKit
theorem deedP_item {L:List ByteArray} {i:Int} (h:fm L 1 i≠-1):itemE L i=fm L 1 i:=by
 have hf:=(frm_fine L (8 * L.length+40)).2.1 1 i (by decide)
 rw [fm_fun] at hf
 rcases hf with hf | hf
 ·exact absurd hf h
 ·exact hf.2
theorem deed_signs {L:List ByteArray} {i:Int} (hi:-1≤i) (h:fm L 1 i≠-1):∀ k,i≤k→k < fm L 1 i→signB (sgAt L k)=true:=by
 have hf:=(frm_clean L (8 * L.length+40)).2 1 i hi
 rw [fm_fun] at hf
 rcases hf with hf | hf
 ·exact absurd hf h
 ·exact hf
theorem deed_meas {L:List ByteArray} {i:Int} (hi:0≤i) (h:fm L 1 i≠-1):measZ L i=(fm L 1 i,depE L i):=by
 have he:=deedP_item h
 have hE:=(fm_good L).1 1 i (by decide)
 unfold Ends at hE
 have hm:=measZ_item (L:=L) (i:=i) (by omega) (fun k h1 h2=>deed_signs (by omega) h k h1 (by omega))
 rw [hm,he]
def playP (L:List ByteArray):Nat→Int→Bool
 | 0,_=>true
 | f+1,i=>if i < (L.length:Int) then (if frm L (8 * L.length+40) 1 i < 0∨60 < depE L i then false else playP L f (frm L (8 * L.length+40) 1 i)) else true
theorem playP_go {L:List ByteArray} {f:Nat} {i:Int} (h:i < (L.length:Int)) (hp:0≤fm L 1 i) (hd:¬ 60 < depE L i):playP L (f+1) i=playP L f (fm L 1 i):=by
 show (if i < (L.length:Int) then (if frm L (8 * L.length+40) 1 i < 0∨60 < depE L i then false else playP L f (frm L (8 * L.length+40) 1 i)) else true)=_
 rw [if_pos h,fm_fun,if_neg (by omega)]
theorem playP_out {L:List ByteArray} {f:Nat} {i:Int} (h:¬ i < (L.length:Int)):playP L f i=true:=by
 cases f with
 | zero=>rfl
 | succ f =>
  unfold playP
  rw [if_neg h]
theorem playP_F (L:List ByteArray):∀ (f:Nat) (i:Int),0≤i→i≤(L.length:Int)→(L.length:Int) < i+f→playP L f i=playF L f i
 | 0,i,_,h1,h2=>by omega
 | f+1,i,h0,h1,h2=>by
  by_cases hin:i < (L.length:Int)
  ·unfold playP
   rw [if_pos hin]
   have hE:=(frm_good L (8 * L.length+40)).1 1 i (by decide)
   by_cases hd:60 < depE L i
   ·rw [if_pos (Or.inr hd),playF_deep ⟨h0,hin⟩ hd]
   ·rw [playF_go ⟨h0,hin⟩ hd]
    generalize frm L (8 * L.length+40) 1 i=y at hE
    unfold Ends at hE
    by_cases hy:y < 0
    ·rw [if_pos (Or.inl hy),playF_end (by omega)]
     exact (decide_eq_false (by omega)).symm
    ·rw [if_neg (by omega)]
     exact playP_F L f y (by omega) (by omega) (by omega)
  ·unfold playP
   rw [if_neg hin,playF_end (by omega)]
   exact (decide_eq_true (by omega)).symm
theorem playF_signs (L:List ByteArray):∀ (f:Nat) (i:Int),0≤i→playF L f i=true→∀ k,i≤k→k < (L.length:Int)→signB (sgAt L k)=true
 | 0,i,_,h,k,h1,h2=>by
  have:=of_decide_eq_true h
  omega
 | f+1,i,h0,h,k,h1,h2=>by
  by_cases hin:i < (L.length:Int)
  ·by_cases hd:60 < depE L i
   ·rw [playF_deep ⟨h0,hin⟩ hd] at h
    exact absurd h (by decide)
   ·rw [playF_go ⟨h0,hin⟩ hd] at h
    have hE:=(frm_good L (8 * L.length+40)).1 1 i (by decide)
    rw [fm_fun] at h hE
    unfold Ends at hE
    have hne:fm L 1 i≠-1:=fun e=>by
     rw [e,playF_end (by omega)] at h
     have:=of_decide_eq_true h
     omega
    by_cases hk:k < fm L 1 i
    ·exact deed_signs (by omega) hne k h1 hk
    ·exact playF_signs L f (fm L 1 i) (by omega) h k (by omega) h2
  ·omega
theorem play_same {L:List ByteArray} (h:L.length≤2000):playB L=playP L (L.length+1) 0:=by
 rw [playP_F L (L.length+1) 0 (Int.le_refl _) (by omega) (by omega)]
 unfold playB
 rw [decide_eq_true h,Bool.true_and]
 cases hp:playF L (L.length+1) 0
 ·rw [Bool.and_false]
 ·rw [Bool.and_true]
  refine signs_yes fun k hk=>?_
  have:=playF_signs L (L.length+1) 0 (Int.le_refl _) hp (k:Int) (by omega) (by omega)
  rwa [sgAt_in (by omega) (by omega)] at this
set_option maxHeartbeats 1000000 in
theorem depthOfI_any (a:Option Addr) (cap:Nat) (L:List ByteArray) (i:Int) (w:World) (h:ArgT w a L) (hL:L.length≤1048576) :
  Calls Tryz.prog 41 #[.slice a L.length cap,.int .i64 i] w fun e w'=>e=.returned (.int .i64 (measZ L i).2)∧Below w.heap.size w w':=by
 obtain ⟨m1,m2,hM⟩:∃ m1 m2,measZ L i=(m1,m2):=⟨_,_,rfl⟩
 have HM:Hid (measZ L i=(m1,m2)):=hM
 clear hM
 rw [HM.out]
 go_enter Tryz.func41,Tryz.ntmps41
 go_wp2_with fail
 refine (measured_any a cap L i _ h hL).mono ?_
 rintro e w1 ⟨rfl,hb1⟩
 rw [HM.out]
 go_wp2
 go_ret
 exact ⟨rfl,hb1⟩
set_option maxHeartbeats 2000000 in
theorem playOkI_any (a:Option Addr) (cap:Nat) (L:List ByteArray) (w:World) (ht:Tab w) (h:ArgT w a L) (hL:L.length≤1048576) :
  Calls Tryz.prog 27 #[.slice a L.length cap] w fun e w'=>e=.returned (.bool (playB L))∧Below w.heap.size w w':=by
 by_cases hbig:2000 < L.length
 ·have HP:Hid (playB L=false):=(by unfold playB;rw [decide_eq_false (by omega)];rfl:playB L=false)
  go_enter Tryz.func27,Tryz.ntmps27
  go_wp2
  go_ret
  exact ⟨by rw [HP.out];rfl,Below.refl _ _⟩
 have HP:Hid (playB L=playP L (L.length+1) 0):=play_same (by omega)
 go_enter Tryz.func27,Tryz.ntmps27
 go_wp2_with fail
 refine (allForms_any _).mono ?_
 rintro e w1 ⟨rfl,hT1,hb1⟩
 go_wp2
 go_loopw [4] (fun v wr=>∃ (f:Nat) (x:Int),v=.int .i64 x∧0≤x∧x≤(L.length:Int)∧(L.length:Int) < x+f∧Hid (playP L f x=playB L)∧Below w1.heap.size w1 wr) (fun v _=>farN L (intOf v))
 case atStart=>exact ⟨L.length+1,0,rfl,by omega,by omega,by omega,HP.out.symm,Below.refl _ _⟩
 case round =>
  obtain ⟨f,x,rfl,hx0,hx1,hf,HT,hB⟩:=hrel
  have hBw:=bstep hb1 hB
  by_cases hin:x < (L.length:Int)
  ·obtain ⟨f,rfl⟩:∃ g,f=g+1:=⟨f - 1,by omega⟩
   have hA:=h.call hBw
   have hTr:=hT1.call hB
   have htr:=tab_call ht hBw
   have HEn:Hid (endW L 3 x=fm L 1 x):=(rfl:endW L 3 x=fm L 1 x)
   have hE:=(fm_good L).1 1 x (by decide)
   have hfe:=far_ends hE (by omega)
   have hp:=far_pos (L:=L) (i:=x) hx0 (by omega)
   by_cases hneg:fm L 1 x=-1
   ·have HE:Hid (playB L=false):=(by rw [← HT.out];unfold playP;rw [if_pos hin,if_pos (Or.inl (by rw [fm_fun,hneg];decide))]:playB L=false)
    have HX:Hid (fm L 1 x=-1):=hneg
    clear HT HP hneg hE hfe hp
    go_wp2_with fail
    refine (endOfI_any w.heap.size a cap L x 3 _ hTr htr hA hL (Or.inr rfl)).mono ?_
    rintro e w2 ⟨rfl,hb2⟩
    rw [HEn.out,HX.out]
    go_wp2
    go_ret
    exact ⟨by rw [HE.out];rfl,bstep hBw hb2⟩
   ·have HM:Hid ((measZ L x).2=depE L x):=(by rw [deed_meas hx0 hneg]:(measZ L x).2=depE L x)
    unfold Ends at hE
    have hpos:0≤fm L 1 x:=by omega
    by_cases hd:60 < depE L x
    ·have HE:Hid (playB L=false):=(by rw [← HT.out];unfold playP;rw [if_pos hin,if_pos (Or.inr hd)]:playB L=false)
     clear HT HP hneg hE hfe hp
     go_wp2_with fail
     refine (endOfI_any w.heap.size a cap L x 3 _ hTr htr hA hL (Or.inr rfl)).mono ?_
     rintro e w2 ⟨rfl,hb2⟩
     rw [HEn.out]
     clear HEn
     generalize fm L 1 x=y at hpos
     go_wp2_with fail
     refine (depthOfI_any a cap L x _ (hA.call hb2) hL).mono ?_
     rintro e w3 ⟨rfl,hb3⟩
     rw [HM.out]
     clear HM
     generalize depE L x=D at hd
     go_wp2
     go_ret
     exact ⟨by rw [HE.out];rfl,bstep (bstep hBw hb2) hb3⟩
    ·have HE:Hid (playP L f (fm L 1 x)=playB L):=(HT.out.symm.trans (playP_go hin hpos hd)).symm
     clear HT HP hneg
     go_wp2_with fail
     refine (endOfI_any w.heap.size a cap L x 3 _ hTr htr hA hL (Or.inr rfl)).mono ?_
     rintro e w2 ⟨rfl,hb2⟩
     rw [HEn.out]
     clear HEn
     generalize fm L 1 x=y at hpos HE hE hfe
     go_wp2_with fail
     refine (depthOfI_any a cap L x _ (hA.call hb2) hL).mono ?_
     rintro e w3 ⟨rfl,hb3⟩
     rw [HM.out]
     clear HM
     generalize depE L x=D at hd
     have hB3:Below w1.heap.size w1 w3:=bstep (bstep hB hb2) hb3
     go_wp2
     go_roundw
     case rel=>exact ⟨f,y,rfl,by omega,by omega,by omega,HE.out,hB3⟩
     case measure=>simp [intOf];omega
  ·have HE:Hid (playB L=true):=HT.out.symm.trans (playP_out hin)
   clear HT HP
   go_wp2
   go_ret
   exact ⟨by rw [HE.out];rfl,hBw⟩
end Go.Proofs.YtdgihicpjonjgaaGreatDoor
