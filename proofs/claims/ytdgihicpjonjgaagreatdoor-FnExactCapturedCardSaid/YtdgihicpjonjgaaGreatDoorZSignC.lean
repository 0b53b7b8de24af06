import Derived.Test.YtdgihicpjonjgaaGreatDoorZSignB
import Derived.Test.YtdgihicpjonjgaaGreatDoorZBase
import Derived.Test.YtdgihicpjonjgaaGreatDoorZListA
namespace Go.Proofs.YtdgihicpjonjgaaGreatDoor
open Go.RowKit
set_option maxHeartbeats 400000 in
theorem nameOkI_any (s:ByteArray) (w:World) (hs:s.size≤maxLen) :
  Calls Tryz.prog 137 #[.string s] w fun e w'=>e=.returned (.bool (nameB s))∧w'=w:=by
 have HB:Hid ((kindN s == 2)=nameB s):=by
  show (kindN s == 2)=nameB s
  rw [Bool.eq_iff_iff,beq_iff_eq,nameB_iff,name_iff]
 go_enter Tryz.func137,Tryz.ntmps137
 go_wp2_with fail
 refine (signKind_any s _ hs).mono ?_
 rintro e w1 ⟨rfl,rfl⟩
 generalize kindN s=kd at HB ⊢
 go_wp2
 go_ret
 exact ⟨by rw [← HB.out];rfl,rfl⟩
set_option maxHeartbeats 400000 in
theorem signOkI_any (s:ByteArray) (w:World) (hs:s.size≤maxLen) :
  Calls Tryz.prog 140 #[.string s] w fun e w'=>e=.returned (.bool (signB s))∧w'=w:=by
 have HB:Hid ((kindN s != 0)=signB s):=by
  show (kindN s != 0)=signB s
  unfold signB
  rw [Bool.eq_iff_iff]
  simp
 go_enter Tryz.func140,Tryz.ntmps140
 go_wp2_with fail
 refine (signKind_any s _ hs).mono ?_
 rintro e w1 ⟨rfl,rfl⟩
 generalize kindN s=kd at HB ⊢
 go_wp2
 go_ret
 exact ⟨by rw [← HB.out];rfl,rfl⟩
theorem bytes_ext {a b:ByteArray} (h:a.data.toList=b.data.toList):a=b:=by
 apply ByteArray.ext
 exact Array.ext' h
theorem str_ne {a b:ByteArray} (h:a≠b):(a.toList == b.toList)=false:=by
 rw [ByteArray.toList_eq,ByteArray.toList_eq,beq_eq_false_iff_ne]
 exact fun e=>h (bytes_ext e)
theorem one_of {s:ByteArray} (c:UInt8) (h1:s.size=1) (h2:byt s 0=(c.toNat:Int)):s=⟨#[c]⟩:=by
 apply bytes_ext
 have h0:0 < s.size:=by omega
 rw [byt_eq h0] at h2
 have hl:s.data.toList.length=1:=by simpa using h1
 have e:s[0]=c:=UInt8.toNat_inj.mp (by omega)
 match hm:s.data.toList,hl with
 | [x],_ =>
  have:s.data[0]'(by simpa using h0)=x:=by
   have:=Array.getElem_toList (xs:=s.data) (i:=0) (by simpa using h0)
   rw [← this];simp [hm]
  rw [ByteArray.getElem_eq_getElem_data,this] at e
  rw [e]
def Txt (B off:Nat) (L:List ByteArray) (w:World):Prop:=∀ i (h:i < L.length),w.cell? ⟨B,off+i,none⟩=some (.string L[i])
set_option maxHeartbeats 400000 in
theorem l1At_any (B off cap:Nat) (L:List ByteArray) (s:ByteArray) (w:World) (hL:Txt B off L w) (hl:L.length≤5000000) :
  Calls Tryz.prog 102 #[.slice (some ⟨B,off,none⟩) L.length cap,.string s] w fun e w'=>∃ x:Int,e=.returned (.int .i64 x)∧(0≤x↔s∈L)∧w'=w:=by
 go_enter Tryz.func102,Tryz.ntmps102
 go_wp2
 go_loop [5] (fun i=>∃ k:Nat,k≤L.length∧i=.int .i64 k∧Hid (∀ j (h:j < L.length),j < k→L[j]≠s)) (fun i=>L.length - (intOf i).toNat)
 case atStart=>exact ⟨0,Nat.zero_le _,rfl,fun j _ hj=>absurd hj (Nat.not_lt_zero _)⟩
 case round =>
  obtain ⟨k,hk,rfl,HA⟩:=hrel
  by_cases hlt:k < L.length
  ·have hc:=hL k hlt
   generalize hx:L[k]=x at hc
   have HX:Hid (L[k]=x):=hx
   clear hx
   by_cases q:x=s
   ·subst q
    have HM:Hid (x∈L):=(by rw [← HX.out];exact List.getElem_mem hlt:x∈L)
    go_wp2
    go_ret
    refine ⟨_,rfl,?_,rfl⟩
    exact ⟨fun _=>HM.out,fun _=>by omega⟩
   ·have b:=str_ne q
    go_wp2
    refine ⟨⟨k+1,by omega,by go_num,fun j hj hlt=>?_⟩,by simp [intOf];omega⟩
    by_cases e:j=k
    ·subst e;rw [HX.out];exact q
    ·exact HA.out j hj (by omega)
  ·go_wp2
   go_ret
   refine ⟨_,rfl,?_,rfl⟩
   refine ⟨fun h=>absurd h (by decide),fun h=>?_⟩
   obtain ⟨j,hj,e⟩:=List.getElem_of_mem h
   exact absurd e (HA.out j hj (by omega))
theorem lit1 (s:ByteArray) (c:UInt8):(s.toList == [c])=decide (s.size=1∧byt s 0=(c.toNat:Int)):=by
 rw [ByteArray.toList_eq,Bool.eq_iff_iff,beq_iff_eq,decide_eq_true_iff]
 constructor
 ·intro h
  have hs:s=⟨#[c]⟩:=bytes_ext h
  rw [hs]
  exact ⟨rfl,rfl⟩
 ·rintro ⟨h1,h2⟩
  rw [one_of c h1 h2]
def opsL:List ByteArray:=[⟨#[43]⟩,⟨#[45]⟩,⟨#[42]⟩,⟨#[60]⟩,⟨#[61]⟩,⟨#[38]⟩]
theorem mem_ops (s:ByteArray):s∈opsL↔isMark s:=by
 constructor
 ·intro h
  simp only [opsL,List.mem_cons,List.not_mem_nil,or_false] at h
  rcases h with rfl | rfl | rfl | rfl | rfl | rfl
  ·exact ⟨rfl,Or.inl rfl⟩
  ·exact ⟨rfl,Or.inr (Or.inl rfl)⟩
  ·exact ⟨rfl,Or.inr (Or.inr (Or.inl rfl))⟩
  ·exact ⟨rfl,Or.inr (Or.inr (Or.inr (Or.inl rfl)))⟩
  ·exact ⟨rfl,Or.inr (Or.inr (Or.inr (Or.inr (Or.inl rfl))))⟩
  ·exact ⟨rfl,Or.inr (Or.inr (Or.inr (Or.inr (Or.inr rfl))))⟩
 ·rintro ⟨h1,h | h | h | h | h | h⟩
  ·rw [one_of 43 h1 h];simp [opsL]
  ·rw [one_of 45 h1 h];simp [opsL]
  ·rw [one_of 42 h1 h];simp [opsL]
  ·rw [one_of 60 h1 h];simp [opsL]
  ·rw [one_of 61 h1 h];simp [opsL]
  ·rw [one_of 38 h1 h];simp [opsL]
set_option maxHeartbeats 1000000 in
theorem l2Ops_any (w:World) :
  Calls Tryz.prog 103 #[] w fun e w'=>e=.returned (.slice (some ⟨w.heap.size,0,none⟩) 6 6)∧Txt w.heap.size 0 opsL w'∧Below w.heap.size w w':=by
 go_enter Tryz.func103,Tryz.ntmps103
 go_wp2
 go_ret
 refine ⟨rfl,fun i hi=>?_,by go_grown⟩
 have h6:i < 6:=hi
 match i,h6 with
 | 0,_=>simp [opsL,go_sem]
 | 1,_=>simp [opsL,go_sem]
 | 2,_=>simp [opsL,go_sem]
 | 3,_=>simp [opsL,go_sem]
 | 4,_=>simp [opsL,go_sem]
 | 5,_=>simp [opsL,go_sem]
theorem sign_yes {s:ByteArray} {k:Int} (h:kindN s=k) (hk:k≠0):signB s=true:=by unfold signB;rw [h];exact decide_eq_true hk
set_option maxHeartbeats 1000000 in
theorem signOkS_any (s:ByteArray) (w:World) (hs:s.size≤maxLen) :
  Calls Tryz.prog 50 #[.string s] w fun e w'=>e=.returned (.bool (signB s))∧Below w.heap.size w w':=by
 cases hn:numerB s
 ·have HN:Hid (numerB s=false):=hn
  by_cases hp:s.size=1∧byt s 0=40
  ·have b40:(s.toList == [40])=true:=by rw [lit1];exact decide_eq_true hp
   have HB:Hid (signB s=true):=sign_yes (kind_paren ⟨hp.1,Or.inl hp.2⟩) (by decide)
   clear hn hp
   go_enter Tryz.func50,Tryz.ntmps50
   go_wp2_with fail
   refine (readNumberS_any s _ hs).mono ?_
   rintro e w1 ⟨rfl,rfl⟩
   rw [HN.out]
   go_wp2
   go_ret
   rw [HB.out]
   exact ⟨rfl,Below.refl _ _⟩
  have b40:(s.toList == [40])=false:=by rw [lit1];exact decide_eq_false hp
  by_cases hq:s.size=1∧byt s 0=41
  ·have b41:(s.toList == [41])=true:=by rw [lit1];exact decide_eq_true hq
   have HB:Hid (signB s=true):=sign_yes (kind_paren ⟨hq.1,Or.inr hq.2⟩) (by decide)
   clear hn hp hq
   go_enter Tryz.func50,Tryz.ntmps50
   go_wp2_with fail
   refine (readNumberS_any s _ hs).mono ?_
   rintro e w1 ⟨rfl,rfl⟩
   rw [HN.out]
   go_wp2
   go_ret
   rw [HB.out]
   exact ⟨rfl,Below.refl _ _⟩
  have b41:(s.toList == [41])=false:=by rw [lit1];exact decide_eq_false hq
  have HP:Hid (¬ isParen s):=fun h=>by
   rcases h with ⟨h1,h2 | h2⟩
   ·exact hp ⟨h1,h2⟩
   ·exact hq ⟨h1,h2⟩
  clear hp hq
  cases hm:nameB s
  ·have HM:Hid (nameB s=false):=hm
   cases ho:quotB s
   ·have HO:Hid (quotB s=false):=ho
    have HB:Hid (signB s=true↔s∈opsL):=by
     refine ⟨fun h=>?_,fun h=>sign_yes (kind_mark ((mem_ops s).mp h)) (by decide)⟩
     refine (mem_ops s).mpr (Classical.byContradiction fun hk=>?_)
     have h0:=kind_none (fun h=>by rw [(nameB_iff s).mpr h] at hm;exact absurd hm (by decide)) (fun h=>by rw [(numerB_iff s).mpr h] at hn;exact absurd hn (by decide)) (fun h=>by rw [(quotB_iff s).mpr h] at ho;exact absurd ho (by decide)) HP.out hk
     unfold signB at h
     rw [h0] at h
     exact absurd h (by decide)
    clear hn hm ho
    go_enter Tryz.func50,Tryz.ntmps50
    go_wp2_with fail
    refine (readNumberS_any s _ hs).mono ?_
    rintro e w1 ⟨rfl,rfl⟩
    rw [HN.out]
    go_wp2_with fail
    refine (nameOkS_any s _ hs).mono ?_
    rintro e w1 ⟨rfl,rfl⟩
    rw [HM.out]
    go_wp2_with fail
    refine (l2Quoted_any s _ hs).mono ?_
    rintro e w1 ⟨rfl,rfl⟩
    rw [HO.out]
    go_wp2_with fail
    refine (l2Ops_any _).mono ?_
    rintro e w1 ⟨rfl,hT,hb⟩
    go_wp2_with fail
    refine (l1At_any _ 0 6 opsL s _ hT (by decide)).mono ?_
    rintro e w2 ⟨x,rfl,hx,rfl⟩
    have HX:Hid (decide (0≤x)=signB s):=by
     show decide (0≤x)=signB s
     rw [Bool.eq_iff_iff,decide_eq_true_iff]
     exact hx.trans HB.out.symm
    clear hx
    go_wp2
    go_ret
    exact ⟨by rw [← HX.out];rfl,hb⟩
   ·have HO:Hid (quotB s=true):=ho
    have HB:Hid (signB s=true):=sign_yes (kind_quot ((quotB_iff s).mp ho)) (by decide)
    clear hn hm ho
    go_enter Tryz.func50,Tryz.ntmps50
    go_wp2_with fail
    refine (readNumberS_any s _ hs).mono ?_
    rintro e w1 ⟨rfl,rfl⟩
    rw [HN.out]
    go_wp2_with fail
    refine (nameOkS_any s _ hs).mono ?_
    rintro e w1 ⟨rfl,rfl⟩
    rw [HM.out]
    go_wp2_with fail
    refine (l2Quoted_any s _ hs).mono ?_
    rintro e w1 ⟨rfl,rfl⟩
    rw [HO.out]
    go_wp2
    go_ret
    rw [HB.out]
    exact ⟨rfl,Below.refl _ _⟩
  ·have HM:Hid (nameB s=true):=hm
   have HB:Hid (signB s=true):=sign_yes (kind_name ((nameB_iff s).mp hm)) (by decide)
   clear hn hm
   go_enter Tryz.func50,Tryz.ntmps50
   go_wp2_with fail
   refine (readNumberS_any s _ hs).mono ?_
   rintro e w1 ⟨rfl,rfl⟩
   rw [HN.out]
   go_wp2_with fail
   refine (nameOkS_any s _ hs).mono ?_
   rintro e w1 ⟨rfl,rfl⟩
   rw [HM.out]
   go_wp2
   go_ret
   rw [HB.out]
   exact ⟨rfl,Below.refl _ _⟩
 ·have HN:Hid (numerB s=true):=hn
  have HB:Hid (signB s=true):=sign_yes (kind_numer ((numerB_iff s).mp hn)) (by decide)
  clear hn
  go_enter Tryz.func50,Tryz.ntmps50
  go_wp2_with fail
  refine (readNumberS_any s _ hs).mono ?_
  rintro e w1 ⟨rfl,rfl⟩
  rw [HN.out]
  go_wp2
  go_ret
  rw [HB.out]
  exact ⟨rfl,Below.refl _ _⟩
end Go.Proofs.YtdgihicpjonjgaaGreatDoor
namespace Go.Proofs.YtdgihicpjonjgaaGreatDoor
open Go.RowKit
def signsB (L:List ByteArray):Bool:=L.all signB
theorem signs_no {L:List ByteArray} {k:Nat} (h:k < L.length) (hb:signB L[k]=false):signsB L=false:=by
 unfold signsB
 rw [List.all_eq_false]
 exact ⟨L[k],List.getElem_mem h,by simp [hb]⟩
theorem signs_yes {L:List ByteArray} (h:∀ k (h:k < L.length),signB L[k]=true):signsB L=true:=by
 unfold signsB
 rw [List.all_eq_true]
 intro x hx
 obtain ⟨i,hi,rfl⟩:=List.getElem_of_mem hx
 exact h i hi
set_option maxHeartbeats 1000000 in
theorem l2Signs_any (a:Option Addr) (cap:Nat) (L:List ByteArray) (w:World) (h:ArgT w a L) (hL:L.length≤1048576) :
  Calls Tryz.prog 33 #[.slice a L.length cap] w fun e w'=>e=.returned (.bool (signsB L))∧Below w.heap.size w w':=by
 go_enter Tryz.func33,Tryz.ntmps33
 go_wp2
 go_loopw [3] (fun i wr=>∃ k:Nat,k≤L.length∧i=.int .i64 (k:Int)∧Below w.heap.size w wr∧Hid (∀ j (h:j < L.length),j < k→signB L[j]=true)) (fun i _=>L.length - (intOf i).toNat)
 case atStart=>exact ⟨0,Nat.zero_le _,rfl,Below.refl _ _,fun j _ hj=>absurd hj (Nat.not_lt_zero _)⟩
 case round =>
  obtain ⟨k,hk,rfl,hB,HA⟩:=hrel
  by_cases hlt:k < L.length
  ·obtain ⟨sb,off,rfl,hs,hc,hm⟩:=h k hlt
   have hc':=(hB.cell (p:=⟨sb,off+k,none⟩) hs).trans hc
   cases hq:signB L[k]
   ·have HS:Hid (signsB L=false):=signs_no hlt hq
    generalize L[k]=t at hc' hm hq
    have HQ:Hid (signB t=false):=hq
    clear hq hc
    go_wp2_with fail
    refine (signOkS_any t _ hm).mono ?_
    rintro e w1 ⟨rfl,hb⟩
    rw [HQ.out]
    go_wp2
    go_ret
    exact ⟨by rw [HS.out];rfl,bstep hB hb⟩
   ·have HN:Hid (∀ j (h:j < L.length),j < k+1→signB L[j]=true):=fun j hj hlt'=>by
     by_cases e:j=k
     ·subst e;exact hq
     ·exact HA.out j hj (by omega)
    generalize L[k]=t at hc' hm hq
    have HQ:Hid (signB t=true):=hq
    clear hq hc
    go_wp2_with fail
    refine (signOkS_any t _ hm).mono ?_
    rintro e w1 ⟨rfl,hb⟩
    rw [HQ.out]
    have hB1:=bstep hB hb
    clear hb
    go_wp2
    go_roundw
    case rel=>exact ⟨k+1,by omega,by go_num,hB1,HN⟩
    case measure=>simp [intOf];omega
  ·have HS:Hid (signsB L=true):=signs_yes fun j hj=>HA.out j hj (by omega)
   go_wp2
   go_ret
   exact ⟨by rw [HS.out];rfl,hB⟩
end Go.Proofs.YtdgihicpjonjgaaGreatDoor
