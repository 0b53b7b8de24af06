import Derived.Test.YtdojfommmpnbgaaGreatDoorKAC
import Derived.Test.YtdojfommmpnbgaaGreatDoorKAD
set_option maxHeartbeats 1000000
namespace Go.Proofs.YtdojfommmpnbgaaGreatDoor
open Go.RowKit Go.Proofs.Tryz
theorem py(s:ByteArray)(w:World)(hs:s.size≤maxLen) :
  ah 130 #[.string s] w fun e w'=>e=.returned (.bool (bt s))∧w'=w:=by
 have HB:Hid ((bn s==2)=bt s):=by
  show(bn s==2)=bt s;rw[Bool.eq_iff_iff,beq_iff_eq,iY,I8]
 go_enter func130,ntmps130;go_wp2_with fail;refine(ow s _ hs).mono ?_;rintro e w1 ⟨rfl,rfl⟩;generalize bn s=kd at HB ⊢;go_wp2;go_ret;exact⟨by rw[←HB.out];rfl,rfl⟩
theorem rG(s:ByteArray)(w:World)(hs:s.size≤maxLen) :
  ah 175 #[.string s] w fun e w'=>e=.returned (.bool (bT s))∧w'=w:=by
 have HB:Hid ((bn s != 0)=bT s):=by
  show(bn s != 0)=bT s;unfold bT;rw[Bool.eq_iff_iff];simp
 go_enter func175,ntmps175;go_wp2_with fail;refine(ow s _ hs).mono ?_;rintro e w1 ⟨rfl,rfl⟩;generalize bn s=kd at HB ⊢;go_wp2;go_ret;exact⟨by rw[←HB.out];rfl,rfl⟩
theorem jS{a b:ByteArray}(h:a.data.toList=b.data.toList):a=b:=by
 apply ByteArray.ext;exact Array.ext' h
theorem Df{a b:ByteArray}(h:a≠b):(a.toList==b.toList)=false:=by
 rw[ByteArray.toList_eq,ByteArray.toList_eq,beq_eq_false_iff_ne];exact fun e=>h (jS e)
theorem ob{s:ByteArray}(c:UInt8)(h1:s.size=1)(h2:aI s 0=(c.toNat:Int)):s=⟨#[c]⟩:=by
 apply jS;have h0:0<s.size:=by omega
 rw[fP h0]at h2;have hl:s.data.toList.length=1:=by simpa using h1
 have e:s[0]=c:=UInt8.toNat_inj.mp (by omega);match hm:s.data.toList,hl with
 |[x],_ =>
  have:s.data[0]'(by simpa using h0)=x:=by
   have:=Array.getElem_toList (xs:=s.data) (i:=0) (by simpa using h0);rw[←this];simp[hm]
  rw[ByteArray.getElem_eq_getElem_data,this]at e;rw[e]
def oJ(B off:Nat)(L:af)(w:World):Prop:=∀i (h:i<L.length),w.cell? ⟨B,off+i,none⟩=some (.string L[i])
theorem qT(B off cap:Nat)(L:af)(s:ByteArray)(w:World)(hL:oJ B off L w)(hl:L.length≤5000000) :
  ah 54 #[.slice (some ⟨B,off,none⟩) L.length cap,.string s] w fun e w'=>∃x:Int,e=.returned (.int .i64 x)∧(0≤x↔s∈L)∧w'=w:=by
 go_enter func54,ntmps54;go_wp2;go_loop [5] (fun i=>∃k:Nat,k≤L.length∧i=.int .i64 k∧Hid (∀j (h:j<L.length),j<k→L[j]≠s)) (fun i=>L.length-(intOf i).toNat)
 case atStart=>exact⟨0,Nat.zero_le _,rfl,fun j _ hj=>absurd hj (Nat.not_lt_zero _)⟩
 case round =>
  obtain⟨k,hk,rfl,HA⟩:=hrel;by_cases hlt:k<L.length
  ·have hc:=hL k hlt;generalize hx:L[k]=x at hc;have HX:Hid (L[k]=x):=hx;clear hx;by_cases q:x=s
   ·subst q;have HM:=aj (by rw[←HX.out];exact List.getElem_mem hlt:x∈L);go_wp2;go_ret;refine⟨_,rfl,?_,rfl⟩;exact⟨fun _=>HM.out,fun _=>by omega⟩
   ·have b:=Df q;go_wp2;refine⟨⟨k+1,by omega,by go_num,fun j hj hlt=>?_⟩,by simp[intOf];omega⟩;by_cases e:j=k
    ·subst e;rw[HX.out];exact q
    ·exact HA.out j hj (by omega)
  ·go_wp2;go_ret;refine⟨_,rfl,?_,rfl⟩;refine⟨fun h=>absurd h (by decide),fun h=>?_⟩;obtain⟨j,hj,e⟩:=List.getElem_of_mem h;exact absurd e (HA.out j hj (by omega))
theorem sW(s:ByteArray)(c:UInt8):(s.toList==[c])=decide (s.size=1∧aI s 0=(c.toNat:Int)):=by
 rw[ByteArray.toList_eq,Bool.eq_iff_iff,beq_iff_eq,decide_eq_true_iff];constructor
 ·intro h;have hs:s=⟨#[c]⟩:=jS h;rw[hs];exact⟨rfl,rfl⟩
 ·rintro⟨h1,h2⟩;rw[ob c h1 h2]
def dV:af:=[⟨#[43]⟩,⟨#[45]⟩,⟨#[42]⟩,⟨#[60]⟩,⟨#[61]⟩,⟨#[38]⟩]
theorem vW(s:ByteArray):s∈dV↔qN s:=by
 constructor
 ·intro h;simp only[dV,List.mem_cons,List.not_mem_nil,or_false]at h;rcases h with rfl|rfl|rfl|rfl|rfl|rfl
  ·exact⟨rfl,Or.inl rfl⟩
  ·exact⟨rfl,Or.inr (Or.inl rfl)⟩
  ·exact⟨rfl,Or.inr (Or.inr (Or.inl rfl))⟩
  ·exact⟨rfl,Or.inr (Or.inr (Or.inr (Or.inl rfl)))⟩
  ·exact⟨rfl,Or.inr (Or.inr (Or.inr (Or.inr (Or.inl rfl))))⟩
  ·exact⟨rfl,Or.inr (Or.inr (Or.inr (Or.inr (Or.inr rfl))))⟩
 ·rintro⟨h1,h|h|h|h|h|h⟩
  ·rw[ob 43 h1 h];simp[dV]
  ·rw[ob 45 h1 h];simp[dV]
  ·rw[ob 42 h1 h];simp[dV]
  ·rw[ob 60 h1 h];simp[dV]
  ·rw[ob 61 h1 h];simp[dV]
  ·rw[ob 38 h1 h];simp[dV]
theorem A4(w:World) :
  ah 142 #[] w fun e w'=>e=.returned (.slice (some ⟨w.heap.size,0,none⟩) 6 6)∧oJ w.heap.size 0 dV w'∧ai w w':=by
 go_enter func142,ntmps142;go_wp2;go_ret;refine⟨rfl,fun i hi=>?_,by go_grown⟩;have h6:i<6:=hi;match i,h6 with
 |0,_=>simp[dV,go_sem]
 |1,_=>simp[dV,go_sem]
 |2,_=>simp[dV,go_sem]
 |3,_=>simp[dV,go_sem]
 |4,_=>simp[dV,go_sem]
 |5,_=>simp[dV,go_sem]
theorem lD{s:ByteArray}{k:Int}(h:bn s=k)(hk:k≠0):bT s=true:=by unfold bT;rw[h];exact decide_eq_true hk
theorem C1(s:ByteArray)(w:World)(hs:s.size≤maxLen) :
  ah 80 #[.string s] w (aA (.bool (bT s)) w):=by
 cases hn:da s
 ·have HN:=aj hn;by_cases hp:s.size=1∧aI s 0=40
  ·have b40:(s.toList==[40])=true:=by rw[sW];exact decide_eq_true hp
   have HB:Hid (bT s=true):=lD (vB ⟨hp.1,Or.inl hp.2⟩) (by decide);clear hn hp;go_enter func80,ntmps80;go_wp2_with fail;refine(lB s _ hs).mono ?_;rintro e w1 ⟨rfl,rfl⟩;rw[HN.out];go_wp2;go_ret;rw[HB.out];exact⟨rfl,Below.refl _ _⟩
  have b40:(s.toList==[40])=false:=by rw[sW];exact decide_eq_false hp
  by_cases hq:s.size=1∧aI s 0=41
  ·have b41:(s.toList==[41])=true:=by rw[sW];exact decide_eq_true hq
   have HB:Hid (bT s=true):=lD (vB ⟨hq.1,Or.inr hq.2⟩) (by decide);clear hn hp hq;go_enter func80,ntmps80;go_wp2_with fail;refine(lB s _ hs).mono ?_;rintro e w1 ⟨rfl,rfl⟩;rw[HN.out];go_wp2;go_ret;rw[HB.out];exact⟨rfl,Below.refl _ _⟩
  have b41:(s.toList==[41])=false:=by rw[sW];exact decide_eq_false hq
  have HP:Hid (¬pf s):=fun h=>by
   rcases h with⟨h1,h2|h2⟩
   ·exact hp ⟨h1,h2⟩
   ·exact hq ⟨h1,h2⟩
  clear hp hq;cases hm:bt s
  ·have HM:=aj hm;cases ho:fY s
   ·have HO:=aj ho;have HB:Hid (bT s=true↔s∈dV):=by
     refine⟨fun h=>?_,fun h=>lD (vA ((vW s).mp h)) (by decide)⟩;refine(vW s).mpr (Classical.byContradiction fun hk=>?_);have h0:=pk (fun h=>by rw[(iY s).mpr h]at hm;exact absurd hm (by decide)) (fun h=>by rw[(fk s).mpr h]at hn;exact absurd hn (by decide)) (fun h=>by rw[(jI s).mpr h]at ho;exact absurd ho (by decide)) HP.out hk;unfold bT at h;rw[h0]at h;exact absurd h (by decide)
    clear hn hm ho;go_enter func80,ntmps80;go_wp2_with fail;refine(lB s _ hs).mono ?_;rintro e w1 ⟨rfl,rfl⟩;rw[HN.out];go_wp2_with fail;refine(nV s _ hs).mono ?_;rintro e w1 ⟨rfl,rfl⟩;rw[HM.out];go_wp2_with fail;refine(sS s _ hs).mono ?_;rintro e w1 ⟨rfl,rfl⟩;rw[HO.out];go_wp2_with fail;refine(A4 _).mono ?_;rintro e w1 ⟨rfl,hT,hb⟩;go_wp2_with fail;refine(qT _ 0 6 dV s _ hT (by decide)).mono ?_;rintro e w2 ⟨x,rfl,hx,rfl⟩;have HX:Hid (decide (0≤x)=bT s):=by
     show decide (0≤x)=bT s;rw[Bool.eq_iff_iff,decide_eq_true_iff];exact hx.trans HB.out.symm
    clear hx;go_wp2;go_ret;exact⟨by rw[←HX.out];rfl,hb⟩
   ·have HO:=aj ho;have HB:Hid (bT s=true):=lD (nR ((jI s).mp ho)) (by decide);clear hn hm ho;go_enter func80,ntmps80;go_wp2_with fail;refine(lB s _ hs).mono ?_;rintro e w1 ⟨rfl,rfl⟩;rw[HN.out];go_wp2_with fail;refine(nV s _ hs).mono ?_;rintro e w1 ⟨rfl,rfl⟩;rw[HM.out];go_wp2_with fail;refine(sS s _ hs).mono ?_;rintro e w1 ⟨rfl,rfl⟩;rw[HO.out];go_wp2;go_ret;rw[HB.out];exact⟨rfl,Below.refl _ _⟩
  ·have HM:=aj hm;have HB:Hid (bT s=true):=lD (qS ((iY s).mp hm)) (by decide);clear hn hm;go_enter func80,ntmps80;go_wp2_with fail;refine(lB s _ hs).mono ?_;rintro e w1 ⟨rfl,rfl⟩;rw[HN.out];go_wp2_with fail;refine(nV s _ hs).mono ?_;rintro e w1 ⟨rfl,rfl⟩;rw[HM.out];go_wp2;go_ret;rw[HB.out];exact⟨rfl,Below.refl _ _⟩
 ·have HN:=aj hn;have HB:Hid (bT s=true):=lD (mJ ((fk s).mp hn)) (by decide);clear hn;go_enter func80,ntmps80;go_wp2_with fail;refine(lB s _ hs).mono ?_;rintro e w1 ⟨rfl,rfl⟩;rw[HN.out];go_wp2;go_ret;rw[HB.out];exact⟨rfl,Below.refl _ _⟩
def bQ(L:af):Bool:=L.all bT
theorem Mi{L:af}{k:Nat}(h:k<L.length)(hb:bT L[k]=false):bQ L=false:=by
 unfold bQ;rw[List.all_eq_false];exact⟨L[k],List.getElem_mem h,by simp[hb]⟩
theorem C3{L:af}(h:∀k (h:k<L.length),bT L[k]=true):bQ L=true:=by
 unfold bQ;rw[List.all_eq_true];intro x hx;obtain⟨i,hi,rfl⟩:=List.getElem_of_mem hx;exact h i hi
theorem A5(a:Option Addr)(cap:Nat)(L:af)(w:World)(h:aD w a L)(hL:L.length≤1048576) :
  ah 45 #[.slice a L.length cap] w (aA (.bool (bQ L)) w):=by
 go_enter func45,ntmps45;go_wp2;go_loopw [3] (fun i wr=>∃k:Nat,k≤L.length∧i=.int .i64 (k:Int)∧ai w wr∧Hid (∀j (h:j<L.length),j<k→bT L[j]=true)) (fun i _=>L.length-(intOf i).toNat)
 case atStart=>exact⟨0,Nat.zero_le _,rfl,Below.refl _ _,fun j _ hj=>absurd hj (Nat.not_lt_zero _)⟩
 case round =>
  obtain⟨k,hk,rfl,hB,HA⟩:=hrel;by_cases hlt:k<L.length
  ·obtain⟨sb,off,rfl,hs,hc,hm⟩:=h k hlt;have hc':=(hB.cell (p:=⟨sb,off+k,none⟩) hs).trans hc;cases hq:bT L[k]
   ·have HS:Hid (bQ L=false):=Mi hlt hq;generalize L[k]=t at hc' hm hq;have HQ:=aj hq;clear hq hc;go_wp2_with fail;refine(C1 t _ hm).mono ?_;rintro e w1 ⟨rfl,hb⟩;rw[HQ.out];go_wp2;go_ret;exact⟨by rw[HS.out];rfl,aw hB hb⟩
   ·have HN:Hid (∀j (h:j<L.length),j<k+1→bT L[j]=true):=fun j hj hlt'=>by
     by_cases e:j=k
     ·subst e;exact hq
     ·exact HA.out j hj (by omega)
    generalize L[k]=t at hc' hm hq
    have HQ:=aj hq
    clear hq hc
    go_wp2_with fail
    refine(C1 t _ hm).mono ?_
    rintro e w1 ⟨rfl,hb⟩
    rw[HQ.out]
    have hB1:=aw hB hb
    clear hb
    go_wp2
    go_roundw
    case rel=>exact⟨k+1,by omega,by go_num,hB1,HN⟩
    case measure=>simp[intOf];omega
  ·have HS:Hid (bQ L=true):=C3 fun j hj=>HA.out j hj (by omega)
   go_wp2;go_ret;exact⟨by rw[HS.out];rfl,hB⟩
end Go.Proofs.YtdojfommmpnbgaaGreatDoor
