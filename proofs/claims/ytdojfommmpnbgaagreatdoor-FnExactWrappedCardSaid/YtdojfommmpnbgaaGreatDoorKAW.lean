import Derived.Test.YtdojfommmpnbgaaGreatDoorKAV
import Derived.Laws.AppendOwnNone
set_option maxHeartbeats 8000000
namespace Go.Proofs.YtdojfommmpnbgaaGreatDoor
open Go.RowKit Go.Proofs.Tryz
def bA(c:Nat)(w:World)(v:Value)(X:af):Prop :=
 (v=.slice none 0 0∧X=[])∨∃sb off cap,v=.slice (some ⟨sb,off,none⟩) X.length cap∧X.length≤cap∧cap≤maxLen∧sb<w.heap.size∧sb≠c∧∀i (h:i<X.length),w.cell? ⟨sb,off+i,none⟩=some (.string X[i])∧X[i].size≤maxLen
theorem bA.call{c:Nat}{w w':World}{v:Value}{X:af}(h:bA c w v X)(hb:ai w w'):bA c w' v X:=by
 rcases h with h|⟨sb,off,cap,hv,h1,h2,h3,h4,h5⟩
 ·exact Or.inl h
 ·exact Or.inr ⟨sb,off,cap,hv,h1,h2,Nat.lt_of_lt_of_le h3 hb.size,h4,fun i hi=>⟨(hb.cell (p:=⟨sb,off+i,none⟩) h3).trans (h5 i hi).1,(h5 i hi).2⟩⟩
theorem bA.but{c:Nat}{w w':World}{v:Value}{X:af}(h:bA c w v X)(hb:az c w w'):bA c w' v X:=by
 rcases h with h|⟨sb,off,cap,hv,h1,h2,h3,h4,h5⟩
 ·exact Or.inl h
 ·exact Or.inr ⟨sb,off,cap,hv,h1,h2,Nat.lt_of_lt_of_le h3 hb.2.2.2.1,h4,fun i hi=>⟨(hb.cell sb (off+i) h3 h4).trans (h5 i hi).1,(h5 i hi).2⟩⟩
theorem bA.size{c:Nat}{w:World}{v:Value}{X:af}(h:bA c w v X)(i:Nat)(hi:i<X.length):X[i].size≤maxLen:=by
 rcases h with⟨_,rfl⟩|⟨_,_,_,_,_,_,_,_,h5⟩
 ·exact absurd hi (Nat.not_lt_zero _)
 ·exact(h5 i hi).2
theorem a8.OL{c B:Nat}{w:World}{v:Value}{X:af}(h:a8 w B v X)(hc:c<B)(hs:∀i (h:i<X.length),X[i].size≤maxLen):bA c w v X:=by
 rcases h.1.2 with⟨hv,_⟩|⟨g,cap,cur,rfl,hB,hg,hcap,hmax,hsz,htake⟩
 ·exact absurd hv h.2
 ·refine Or.inr ⟨g,0,cap,rfl,hcap,hmax,(Array.getElem?_eq_some_iff.1 hg).1,by omega,fun i hi=>⟨?_,hs i hi⟩⟩;have hc:=h.cells i (.string X[i]) (by simp[hi]);rw[Nat.zero_add];have hplain:(⟨g,0,none⟩:Addr).add i=⟨g,i,none⟩:=by
   unfold Addr.add;split
   ·simp_all
   ·simp
  rw[hplain]at hc;exact hc
theorem a8.lo{w:World}{B g n cap:Nat}{X:af}(h:a8 w B (.slice (some ⟨g,0,none⟩) n cap) X):B≤g∧g<w.heap.size:=by
 rcases h.1.2 with⟨hv,_⟩|⟨g',cap',cur,hv,hB,hg,_⟩
 ·cases hv
 ·injection hv with ha _ _;injection ha with ha;injection ha with e1 _ _;subst e1;exact⟨hB,(Array.getElem?_eq_some_iff.1 hg).1⟩
theorem a8.grown{w w':World}{B:Nat}{v:Value}{X:af}{row:Option Nat}(h:a8 w B v X)(hg:w.grownBy w' row)(hne:v.ownBlock≠row):a8 w' B v X:=⟨World.ownsRow.kept h.1 hg (Or.inr hne),h.2⟩
theorem a8.alloc{w:World}{B:Nat}{v:Value}{X:af}(h:a8 w B v X)(o:Obj):a8 (w.alloc o) B v X:=⟨World.ownsRow.alloc h.1 o,h.2⟩
theorem ku(c:Nat)(v:Value)(X:af)(w:World)(h:bA c w v X)(hX:X.length≤8000000) :
  ah 89 #[v] w (kf X w):=by
 obtain⟨i0,hi,hz0,hz1,hz2⟩:=info_parts Tryz.OJ;have hO:=oe w w.heap.size (Nat.le_refl _);have hB0:=ay (Below.refl w.heap.size w) (.cells #[] 9);rcases h with⟨rfl,rfl⟩|⟨sb,off,cap,rfl,h1,h2,h3,h4,h5⟩
 ·go_enter func89,ntmps89;go_wp2_with (at_builtin;refine wpList_append_own_none rfl _ _ 22 rfl w.heap.size 9 i0 1 Tryz.underlying22 hi _ _ _ rfl hO.1 rfl ?_)
  go_wp2;go_ret;exact⟨_,rfl,hO,hB0⟩
 ·have hcc1:∀j u,(X.map Value.string)[j]?=some u→(w.alloc (.cells #[] 9)).cell? ((⟨sb,off,none⟩:Addr).add j)=some u:=fun j u hj=>by
   have hjl:j<X.length:=by
    have:=(List.getElem?_eq_some_iff.1 hj).1;simpa using this
   have hu:u=.string X[j]:=by
    simp[hjl]at hj;exact hj.symm
   have hplain:(⟨sb,off,none⟩:Addr).add j=⟨sb,off+j,none⟩:=by unfold Addr.add;split<;>simp_all
   rw[hplain,hu];exact(hB0.cell (p:=⟨sb,off+j,none⟩) h3).trans (h5 j hjl).1
  have hcc2:∀u∈X.map Value.string,u.oneCell'=true:=fun u hu=>by
   obtain⟨z,_,rfl⟩:=List.mem_map.1 hu;rfl
  have hc0:(X.map Value.string).length=X.length*1:=by simp
  have hc3:([]:af).length+X.length≤maxLen:=by unfold maxLen;simp;omega
  have hc4:(([]:af).length+X.length)*16≤140737488355328:=by simp;omega
  have hc5:=hB0.size
  go_enter func89,ntmps89
  go_wp2_with (at_builtin;refine wpList_append_own _ rfl _ _ 22 rfl w.heap.size 9 i0 (.string ⟨#[]⟩) 1 16 Tryz.underlying22 hi hz0 hz1 hz2 rfl (by decide) _ _ _ rfl hO.1 ⟨sb,off,none⟩ X.length cap (X.map Value.string) rfl hc0 hcc1 hcc2 hc3 hc4 hc5 ?_)
  intro v' w3 hown' hgrow hnil
  have hR:a8 w3 w.heap.size v' X:=by
   refine⟨?_,fun er=>?_⟩
   ·unfold dq;simpa using hown'
   ·simp[er]at hnil
  have hB3:ai w w3:=hB0.grown hgrow hc5 (fun q hq=>(World.ownsRow.lt hO.1 q hq).1)
  clear hown' hgrow hnil
  go_wp2
  go_ret
  exact⟨_,rfl,hR,hB3⟩
theorem bA.drop{c sb off cap k:Nat}{w:World}{X:af}(h:bA c w (.slice (some ⟨sb,off,none⟩) X.length cap) X)(hk:k≤X.length):bA c w (.slice (some ⟨sb,off+k,none⟩) (X.length-k) (cap-k)) (X.drop k):=by
 rcases h with⟨h,_⟩|⟨sb',off',cap',hv,h1,h2,h3,h4,h5⟩
 ·cases h
 ·injection hv with ha _ hc;injection ha with ha;injection ha with e1 e2 _;subst e1 e2 hc;refine Or.inr ⟨sb,off+k,cap-k,by rw[List.length_drop],by rw[List.length_drop];omega,by omega,h3,h4,fun i hi=>?_⟩;have hi':k+i<X.length:=by rw[List.length_drop]at hi;omega
  rw[List.getElem_drop,show off+k+i=off+(k+i) by omega];exact h5 (k+i) hi'
theorem bA.take{c sb off cap k:Nat}{w:World}{X:af}(h:bA c w (.slice (some ⟨sb,off,none⟩) X.length cap) X)(hk:k≤X.length):bA c w (.slice (some ⟨sb,off,none⟩) k cap) (X.take k):=by
 rcases h with⟨h,_⟩|⟨sb',off',cap',hv,h1,h2,h3,h4,h5⟩
 ·cases h
 ·injection hv with ha _ hc;injection ha with ha;injection ha with e1 e2 _;subst e1 e2 hc;refine Or.inr ⟨sb,off,cap,by rw[List.length_take];congr 1;omega,by rw[List.length_take];omega,h2,h3,h4,fun i hi=>?_⟩;have hi':i<X.length:=by rw[List.length_take]at hi;omega
  rw[List.getElem_take];exact h5 i hi'
theorem Ba(c:Nat)(v:Value)(X:af)(s:ByteArray)(w:World)(h:bA c w v X)(hX:X.length≤3000000)(hs:s.size≤maxLen)(hcw:c<w.heap.size) :
  ah 53 #[v,.string s] w fun e w'=>∃v',e=.returned v'∧(v'=v∧cN X s=X∨a8 w' w.heap.size v' (cN X s))∧bA c w' v' (cN X s)∧ai w w':=by
 obtain⟨i0,hi,hz0,hz1,hz2⟩:=info_parts Tryz.OJ;have hsz:∀i (h:i<(cN X s).length),(cN X s)[i].size≤maxLen:=fun i hi'=>by
  have hm:(cN X s)[i]∈cN X s:=List.getElem_mem hi';have hall:∀z∈cN X s,z.size≤maxLen:=fun z hz=>by
   have hz':z∈X∨z=s:=by
    unfold cN at hz;split at hz
    ·exact Or.inl hz
    ·rcases List.mem_append.1 hz with hz|hz
     ·rcases List.mem_append.1 hz with hz|hz
      ·exact Or.inl (List.mem_of_mem_take hz)
      ·exact Or.inr (by simpa using hz)
     ·exact Or.inl (List.mem_of_mem_drop hz)
   rcases hz' with hz'|rfl
   ·obtain⟨j,hj,rfl⟩:=List.getElem_of_mem hz';exact h.size j hj
   ·exact hs
  exact hall _ hm
 rcases h with⟨rfl,rfl⟩|hS
 ·obtain⟨DD,hDD⟩:∃D:af,D=[]:=⟨_,rfl⟩;obtain⟨TT,hTT⟩:∃T:af,T=[]:=⟨_,rfl⟩;have hDl:DD.length≤3000000:=by rw[hDD];first|omega|(simp;done)|(simp;omega)
  have hTl:TT.length≤3000000:=by rw[hTT];first|omega|(simp;done)|(simp;omega)
  have HN:=aj (by rw[hDD,hTT];simp[cN,fJ]:cN [] s=TT++[s]++DD);have hd:bA c w (.slice none 0 0) DD:=Or.inl ⟨rfl,hDD⟩;have ht:bA c w (.slice none 0 0) TT:=Or.inl ⟨rfl,hTT⟩;have hB:ai w w:=Below.refl _ _;clear hDD hTT;go_enter func53,ntmps53;go_wp2;refine wp_loop_rounds 1 ?_;rw[rounds_succ];go_wp2_with fail;refine(ku c _ DD _ hd (by omega)).mono ?_;rintro e w1 ⟨v1,rfl,hr1,hb1⟩;have hB1:=aw hB hb1;have ht1:=ht.call hb1;obtain⟨g1,cp1,rfl⟩:=hr1.shape;go_wp2_with fail;refine(ku c _ TT _ ht1 (by omega)).mono ?_;rintro e w2 ⟨v2,rfl,hr2,hb2⟩;have hB2:=aw hB1 hb2;have hr1':=hr1.call hb2;have hs2:=hB2.size;have hs1:=hB1.size;have hO2:a8 w2 w.heap.size v2 TT:=⟨mc hr2.1 hs1,hr2.2⟩;obtain⟨g2,cp2,rfl⟩:=hO2.shape;have hcc1:∀j u,[Value.string s][j]?=some u→(w2.alloc (.cells #[.string s] 9)).cell? ((⟨w2.heap.size,0,none⟩:Addr).add j)=some u:=fun j u hj=>by
   match j,hj with
   |0,hj=>simp at hj;subst hj;simp[Addr.add]
  have hcc2:∀u∈[Value.string s],u.oneCell'=true:=fun u hu=>by simp at hu;subst hu;rfl
  have hc3:TT.length+1≤maxLen:=by unfold maxLen;omega
  have hc4:(TT.length+1)*16≤140737488355328:=by omega
  have hc5:w.heap.size≤(w2.alloc (.cells #[.string s] 9)).heap.size:=by simp;omega
  go_wp2_with (at_builtin;refine wpList_append_own _ rfl _ _ 22 rfl w.heap.size 9 i0 (.string ⟨#[]⟩) 1 16 Tryz.underlying22 hi hz0 hz1 hz2 rfl (by decide) _ _ _ rfl (World.ownsRow.alloc hO2.1 _) ⟨w2.heap.size,0,none⟩ 1 1 [.string s] rfl rfl hcc1 hcc2 hc3 hc4 hc5 ?_)
  intro v3 w3 hown3 hgrow3 hnil3;have hO3:a8 w3 w.heap.size v3 (TT++[s]):=by
   refine⟨?_,fun er=>?_⟩
   ·unfold dq;rw[List.map_append,List.length_append];exact hown3
   ·exact hnil3 er
  have hB3:ai w w3:=(ay hB2 _).grown hgrow3 hc5 (fun q hq=>(World.ownsRow.lt hO2.1 q hq).1);have hlo1:=hr1.lo;have hlo2:=hr2.lo;have hr3:=(hr1'.alloc (.cells #[.string s] 9)).grown hgrow3 (by simp[Value.ownBlock];omega);obtain⟨g3,cp3,rfl⟩:=hO3.shape;clear hown3 hgrow3 hnil3 hcc1 hcc2 hc3 hc4 hc5;have hcc1:=hr3.cells;have hcc2:∀u∈DD.map Value.string,u.oneCell'=true:=fun u hu=>by
   obtain⟨z,_,rfl⟩:=List.mem_map.1 hu;rfl
  have hc0:(DD.map Value.string).length=DD.length*1:=by simp
  have hc3:(TT++[s]).length+DD.length≤maxLen:=by unfold maxLen;simp;omega
  have hc4:((TT++[s]).length+DD.length)*16≤140737488355328:=by simp;omega
  have hc5:=hB3.size;generalize hMM:TT++[s]=MM at hO3 HN hc3 hc4 ⊢;clear hMM;go_wp2_with (at_builtin;refine wpList_append_own _ rfl _ _ 22 rfl w.heap.size 9 i0 (.string ⟨#[]⟩) 1 16 Tryz.underlying22 hi hz0 hz1 hz2 rfl (by decide) _ _ _ rfl hO3.1 ⟨g1,0,none⟩ DD.length cp1 (DD.map Value.string) rfl hc0 hcc1 hcc2 hc3 hc4 hc5 ?_)
  intro v4 w4 hown4 hgrow4 hnil4;have hO4:a8 w4 w.heap.size v4 (MM++DD):=by
   refine⟨?_,fun er=>?_⟩
   ·unfold dq;rw[List.map_append,List.length_append];exact hown4
   ·simp[er]at hnil4
  have hB4:ai w w4:=hB3.grown hgrow4 hc5 (fun q hq=>(World.ownsRow.lt hO3.1 q hq).1);clear hown4 hgrow4 hnil4 hcc1 hcc2;rw[←HN.out]at hO4;obtain⟨g4,cp4,rfl⟩:=hO4.shape;have hF:=hO4.OL hcw hsz;go_wp2;go_ret;exact⟨_,rfl,Or.inr hO4,hF,hB4⟩
 ·obtain⟨sb,off,cap,rfl,h1,h2,h3,h4,h5⟩:=id hS;have hL:bA c w (.slice (some ⟨sb,off,none⟩) X.length cap) X:=Or.inr hS;clear hS;go_enter func53,ntmps53;go_wp2;go_loopw [5] (fun v5 wr=>∃k:Nat,v5=.int .i64 (k:Int)∧k≤X.length∧Hid (∀j (h:j<X.length),j<k→cV X[j] s=true)∧ai w wr) (fun v5 _=>X.length-(intOf v5).toNat)
  case atStart=>exact⟨0,rfl,Nat.zero_le _,fun j _ hj=>absurd hj (Nat.not_lt_zero _),Below.refl _ _⟩
  case round =>
   obtain⟨k,rfl,hk,HA,hB⟩:=hrel;have hL':=hL.call hB;by_cases hlt:k<X.length
   ·have hc:=(hB.cell (p:=⟨sb,off+k,none⟩) h3).trans (h5 k hlt).1;cases hq:cV X[k] s
    ·have HP:Hid (fJ X s=k):=wL s X k hk HA.out (fun _=>hq);have hbl:Op.bytesLess X[k].toList s.toList=false:=hq;cases he:(X[k].toList==s.toList)
     ·have hN:=CD HP.out (fun _=>he);have hd:=hL'.drop hk;have ht:=hL'.take hk;obtain⟨DD,hDD⟩:∃D:af,D=X.drop k:=⟨_,rfl⟩;obtain⟨TT,hTT⟩:∃T:af,T=X.take k:=⟨_,rfl⟩;have hDl:DD.length≤3000000:=by rw[hDD];first|omega|(simp;done)|(simp;omega)
      have hTl:TT.length≤3000000:=by rw[hTT];first|omega|(simp;done)|(simp;omega)
      rw[←hDD]at hd hN;rw[←hTT]at ht hN;have HN:=aj hN;clear HA HP hDD hTT hN;generalize X[k]=t at hc hq hbl he;unfold maxLen at h2;go_wp2_with fail;refine(ku c _ DD _ hd (by omega)).mono ?_;rintro e w1 ⟨v1,rfl,hr1,hb1⟩;have hB1:=aw hB hb1;have ht1:=ht.call hb1;obtain⟨g1,cp1,rfl⟩:=hr1.shape;go_wp2_with fail;refine(ku c _ TT _ ht1 (by omega)).mono ?_;rintro e w2 ⟨v2,rfl,hr2,hb2⟩;have hB2:=aw hB1 hb2;have hr1':=hr1.call hb2;have hs2:=hB2.size;have hs1:=hB1.size;have hO2:a8 w2 w.heap.size v2 TT:=⟨mc hr2.1 hs1,hr2.2⟩;obtain⟨g2,cp2,rfl⟩:=hO2.shape;have hcc1:∀j u,[Value.string s][j]?=some u→(w2.alloc (.cells #[.string s] 9)).cell? ((⟨w2.heap.size,0,none⟩:Addr).add j)=some u:=fun j u hj=>by
       match j,hj with
       |0,hj=>simp at hj;subst hj;simp[Addr.add]
      have hcc2:∀u∈[Value.string s],u.oneCell'=true:=fun u hu=>by simp at hu;subst hu;rfl
      have hc3:TT.length+1≤maxLen:=by unfold maxLen;omega
      have hc4:(TT.length+1)*16≤140737488355328:=by omega
      have hc5:w.heap.size≤(w2.alloc (.cells #[.string s] 9)).heap.size:=by simp;omega
      go_wp2_with (at_builtin;refine wpList_append_own _ rfl _ _ 22 rfl w.heap.size 9 i0 (.string ⟨#[]⟩) 1 16 Tryz.underlying22 hi hz0 hz1 hz2 rfl (by decide) _ _ _ rfl (World.ownsRow.alloc hO2.1 _) ⟨w2.heap.size,0,none⟩ 1 1 [.string s] rfl rfl hcc1 hcc2 hc3 hc4 hc5 ?_)
      intro v3 w3 hown3 hgrow3 hnil3;have hO3:a8 w3 w.heap.size v3 (TT++[s]):=by
       refine⟨?_,fun er=>?_⟩
       ·unfold dq;rw[List.map_append,List.length_append];exact hown3
       ·exact hnil3 er
      have hB3:ai w w3:=(ay hB2 _).grown hgrow3 hc5 (fun q hq=>(World.ownsRow.lt hO2.1 q hq).1);have hlo1:=hr1.lo;have hlo2:=hr2.lo;have hr3:=(hr1'.alloc (.cells #[.string s] 9)).grown hgrow3 (by simp[Value.ownBlock];omega);obtain⟨g3,cp3,rfl⟩:=hO3.shape;clear hown3 hgrow3 hnil3 hcc1 hcc2 hc3 hc4 hc5;have hcc1:=hr3.cells;have hcc2:∀u∈DD.map Value.string,u.oneCell'=true:=fun u hu=>by
       obtain⟨z,_,rfl⟩:=List.mem_map.1 hu;rfl
      have hc0:(DD.map Value.string).length=DD.length*1:=by simp
      have hc3:(TT++[s]).length+DD.length≤maxLen:=by unfold maxLen;simp;omega
      have hc4:((TT++[s]).length+DD.length)*16≤140737488355328:=by simp;omega
      have hc5:=hB3.size;generalize hMM:TT++[s]=MM at hO3 HN hc3 hc4 ⊢;clear hMM;go_wp2_with (at_builtin;refine wpList_append_own _ rfl _ _ 22 rfl w.heap.size 9 i0 (.string ⟨#[]⟩) 1 16 Tryz.underlying22 hi hz0 hz1 hz2 rfl (by decide) _ _ _ rfl hO3.1 ⟨g1,0,none⟩ DD.length cp1 (DD.map Value.string) rfl hc0 hcc1 hcc2 hc3 hc4 hc5 ?_)
      intro v4 w4 hown4 hgrow4 hnil4;have hO4:a8 w4 w.heap.size v4 (MM++DD):=by
       refine⟨?_,fun er=>?_⟩
       ·unfold dq;rw[List.map_append,List.length_append];exact hown4
       ·simp[er]at hnil4
      have hB4:ai w w4:=hB3.grown hgrow4 hc5 (fun q hq=>(World.ownsRow.lt hO3.1 q hq).1);clear hown4 hgrow4 hnil4 hcc1 hcc2;rw[←HN.out]at hO4;obtain⟨g4,cp4,rfl⟩:=hO4.shape;have hF:=hO4.OL hcw hsz;go_wp2;go_ret;exact⟨_,rfl,Or.inr hO4,hF,hB4⟩
     ·have HS:Hid (cN X s=X):=K6 HP.out hlt he;clear HA HP;generalize X[k]=t at hc hq hbl he;go_wp2;go_ret;exact⟨_,rfl,Or.inl ⟨rfl,HS.out⟩,by rw[HS.out];exact hL',hB⟩
    ·have HN:Hid (∀j (h:j<X.length),j<k+1→cV X[j] s=true):=fun j hj hlt'=>by
      by_cases e:j=k
      ·subst e;exact hq
      ·exact HA.out j hj (by omega)
     have hbl:Op.bytesLess X[k].toList s.toList=true:=hq
     clear hq HA
     generalize X[k]=t at hc hbl
     go_wp2
     go_roundw
     case rel=>exact⟨k+1,by go_num,by omega,HN.out,hB⟩
     case measure=>simp[intOf];omega
   ·have e0:k=X.length:=by omega
    subst e0;have HP:Hid (fJ X s=X.length):=wL s X X.length hk HA.out (fun h=>absurd h hlt);have hN:=CD HP.out (fun h=>absurd h hlt);rw[List.take_length,List.drop_length]at hN;clear HA HP;obtain⟨DD,hDD⟩:∃D:af,D=[]:=⟨_,rfl⟩;obtain⟨TT,hTT⟩:∃T:af,T=X:=⟨_,rfl⟩;have hDl:DD.length≤3000000:=by rw[hDD];first|omega|(simp;done)|(simp;omega)
    have hTl:TT.length≤3000000:=by rw[hTT];first|omega|(simp;done)|(simp;omega)
    have HN:=aj (by rw[hTT,hDD];exact hN:cN X s=TT++[s]++DD);have ht:bA c wr (.slice (some ⟨sb,off,none⟩) X.length cap) TT:=by rw[hTT];exact hL'
    by_cases hcap:cap=X.length
    ·have hd:bA c wr (.slice (some ⟨sb,off,none⟩) 0 0) DD:=by
      rw[hDD];exact Or.inr ⟨sb,off,0,rfl,Nat.le_refl _,Nat.zero_le _,Nat.lt_of_lt_of_le h3 hB.size,h4,fun i hi=>absurd hi (Nat.not_lt_zero _)⟩
     subst hcap
     clear hDD hTT hN
     unfold maxLen at h2
     go_wp2_with fail
     refine(ku c _ DD _ hd (by omega)).mono ?_
     rintro e w1 ⟨v1,rfl,hr1,hb1⟩
     have hB1:=aw hB hb1
     have ht1:=ht.call hb1
     obtain⟨g1,cp1,rfl⟩:=hr1.shape
     go_wp2_with fail
     refine(ku c _ TT _ ht1 (by omega)).mono ?_
     rintro e w2 ⟨v2,rfl,hr2,hb2⟩
     have hB2:=aw hB1 hb2
     have hr1':=hr1.call hb2
     have hs2:=hB2.size
     have hs1:=hB1.size
     have hO2:a8 w2 w.heap.size v2 TT:=⟨mc hr2.1 hs1,hr2.2⟩
     obtain⟨g2,cp2,rfl⟩:=hO2.shape
     have hcc1:∀j u,[Value.string s][j]?=some u→(w2.alloc (.cells #[.string s] 9)).cell? ((⟨w2.heap.size,0,none⟩:Addr).add j)=some u:=fun j u hj=>by
      match j,hj with
      |0,hj=>simp at hj;subst hj;simp[Addr.add]
     have hcc2:∀u∈[Value.string s],u.oneCell'=true:=fun u hu=>by simp at hu;subst hu;rfl
     have hc3:TT.length+1≤maxLen:=by unfold maxLen;omega
     have hc4:(TT.length+1)*16≤140737488355328:=by omega
     have hc5:w.heap.size≤(w2.alloc (.cells #[.string s] 9)).heap.size:=by simp;omega
     go_wp2_with (at_builtin;refine wpList_append_own _ rfl _ _ 22 rfl w.heap.size 9 i0 (.string ⟨#[]⟩) 1 16 Tryz.underlying22 hi hz0 hz1 hz2 rfl (by decide) _ _ _ rfl (World.ownsRow.alloc hO2.1 _) ⟨w2.heap.size,0,none⟩ 1 1 [.string s] rfl rfl hcc1 hcc2 hc3 hc4 hc5 ?_)
     intro v3 w3 hown3 hgrow3 hnil3
     have hO3:a8 w3 w.heap.size v3 (TT++[s]):=by
      refine⟨?_,fun er=>?_⟩
      ·unfold dq;rw[List.map_append,List.length_append];exact hown3
      ·exact hnil3 er
     have hB3:ai w w3:=(ay hB2 _).grown hgrow3 hc5 (fun q hq=>(World.ownsRow.lt hO2.1 q hq).1)
     have hlo1:=hr1.lo
     have hlo2:=hr2.lo
     have hr3:=(hr1'.alloc (.cells #[.string s] 9)).grown hgrow3 (by simp[Value.ownBlock];omega)
     obtain⟨g3,cp3,rfl⟩:=hO3.shape
     clear hown3 hgrow3 hnil3 hcc1 hcc2 hc3 hc4 hc5
     have hcc1:=hr3.cells
     have hcc2:∀u∈DD.map Value.string,u.oneCell'=true:=fun u hu=>by
      obtain⟨z,_,rfl⟩:=List.mem_map.1 hu;rfl
     have hc0:(DD.map Value.string).length=DD.length*1:=by simp
     have hc3:(TT++[s]).length+DD.length≤maxLen:=by unfold maxLen;simp;omega
     have hc4:((TT++[s]).length+DD.length)*16≤140737488355328:=by simp;omega
     have hc5:=hB3.size
     generalize hMM:TT++[s]=MM at hO3 HN hc3 hc4 ⊢
     clear hMM
     go_wp2_with (at_builtin;refine wpList_append_own _ rfl _ _ 22 rfl w.heap.size 9 i0 (.string ⟨#[]⟩) 1 16 Tryz.underlying22 hi hz0 hz1 hz2 rfl (by decide) _ _ _ rfl hO3.1 ⟨g1,0,none⟩ DD.length cp1 (DD.map Value.string) rfl hc0 hcc1 hcc2 hc3 hc4 hc5 ?_)
     intro v4 w4 hown4 hgrow4 hnil4
     have hO4:a8 w4 w.heap.size v4 (MM++DD):=by
      refine⟨?_,fun er=>?_⟩
      ·unfold dq;rw[List.map_append,List.length_append];exact hown4
      ·simp[er]at hnil4
     have hB4:ai w w4:=hB3.grown hgrow4 hc5 (fun q hq=>(World.ownsRow.lt hO3.1 q hq).1)
     clear hown4 hgrow4 hnil4 hcc1 hcc2
     rw[←HN.out]at hO4
     obtain⟨g4,cp4,rfl⟩:=hO4.shape
     have hF:=hO4.OL hcw hsz
     go_wp2
     go_ret
     exact⟨_,rfl,Or.inr hO4,hF,hB4⟩
    ·have hd:bA c wr (.slice (some ⟨sb,off+X.length,none⟩) 0 (cap-X.length)) DD:=by
      rw[hDD];exact Or.inr ⟨sb,off+X.length,cap-X.length,rfl,Nat.zero_le _,by omega,Nat.lt_of_lt_of_le h3 hB.size,h4,fun i hi=>absurd hi (Nat.not_lt_zero _)⟩
     clear hDD hTT hN
     unfold maxLen at h2
     go_wp2_with fail
     refine(ku c _ DD _ hd (by omega)).mono ?_
     rintro e w1 ⟨v1,rfl,hr1,hb1⟩
     have hB1:=aw hB hb1
     have ht1:=ht.call hb1
     obtain⟨g1,cp1,rfl⟩:=hr1.shape
     go_wp2_with fail
     refine(ku c _ TT _ ht1 (by omega)).mono ?_
     rintro e w2 ⟨v2,rfl,hr2,hb2⟩
     have hB2:=aw hB1 hb2
     have hr1':=hr1.call hb2
     have hs2:=hB2.size
     have hs1:=hB1.size
     have hO2:a8 w2 w.heap.size v2 TT:=⟨mc hr2.1 hs1,hr2.2⟩
     obtain⟨g2,cp2,rfl⟩:=hO2.shape
     have hcc1:∀j u,[Value.string s][j]?=some u→(w2.alloc (.cells #[.string s] 9)).cell? ((⟨w2.heap.size,0,none⟩:Addr).add j)=some u:=fun j u hj=>by
      match j,hj with
      |0,hj=>simp at hj;subst hj;simp[Addr.add]
     have hcc2:∀u∈[Value.string s],u.oneCell'=true:=fun u hu=>by simp at hu;subst hu;rfl
     have hc3:TT.length+1≤maxLen:=by unfold maxLen;omega
     have hc4:(TT.length+1)*16≤140737488355328:=by omega
     have hc5:w.heap.size≤(w2.alloc (.cells #[.string s] 9)).heap.size:=by simp;omega
     go_wp2_with (at_builtin;refine wpList_append_own _ rfl _ _ 22 rfl w.heap.size 9 i0 (.string ⟨#[]⟩) 1 16 Tryz.underlying22 hi hz0 hz1 hz2 rfl (by decide) _ _ _ rfl (World.ownsRow.alloc hO2.1 _) ⟨w2.heap.size,0,none⟩ 1 1 [.string s] rfl rfl hcc1 hcc2 hc3 hc4 hc5 ?_)
     intro v3 w3 hown3 hgrow3 hnil3
     have hO3:a8 w3 w.heap.size v3 (TT++[s]):=by
      refine⟨?_,fun er=>?_⟩
      ·unfold dq;rw[List.map_append,List.length_append];exact hown3
      ·exact hnil3 er
     have hB3:ai w w3:=(ay hB2 _).grown hgrow3 hc5 (fun q hq=>(World.ownsRow.lt hO2.1 q hq).1)
     have hlo1:=hr1.lo
     have hlo2:=hr2.lo
     have hr3:=(hr1'.alloc (.cells #[.string s] 9)).grown hgrow3 (by simp[Value.ownBlock];omega)
     obtain⟨g3,cp3,rfl⟩:=hO3.shape
     clear hown3 hgrow3 hnil3 hcc1 hcc2 hc3 hc4 hc5
     have hcc1:=hr3.cells
     have hcc2:∀u∈DD.map Value.string,u.oneCell'=true:=fun u hu=>by
      obtain⟨z,_,rfl⟩:=List.mem_map.1 hu;rfl
     have hc0:(DD.map Value.string).length=DD.length*1:=by simp
     have hc3:(TT++[s]).length+DD.length≤maxLen:=by unfold maxLen;simp;omega
     have hc4:((TT++[s]).length+DD.length)*16≤140737488355328:=by simp;omega
     have hc5:=hB3.size
     generalize hMM:TT++[s]=MM at hO3 HN hc3 hc4 ⊢
     clear hMM
     go_wp2_with (at_builtin;refine wpList_append_own _ rfl _ _ 22 rfl w.heap.size 9 i0 (.string ⟨#[]⟩) 1 16 Tryz.underlying22 hi hz0 hz1 hz2 rfl (by decide) _ _ _ rfl hO3.1 ⟨g1,0,none⟩ DD.length cp1 (DD.map Value.string) rfl hc0 hcc1 hcc2 hc3 hc4 hc5 ?_)
     intro v4 w4 hown4 hgrow4 hnil4
     have hO4:a8 w4 w.heap.size v4 (MM++DD):=by
      refine⟨?_,fun er=>?_⟩
      ·unfold dq;rw[List.map_append,List.length_append];exact hown4
      ·simp[er]at hnil4
     have hB4:ai w w4:=hB3.grown hgrow4 hc5 (fun q hq=>(World.ownsRow.lt hO3.1 q hq).1)
     clear hown4 hgrow4 hnil4 hcc1 hcc2
     rw[←HN.out]at hO4
     obtain⟨g4,cp4,rfl⟩:=hO4.shape
     have hF:=hO4.OL hcw hsz
     go_wp2
     go_ret
     exact⟨_,rfl,Or.inr hO4,hF,hB4⟩
theorem A9(c:Nat)(v:Value)(X:af)(s:ByteArray)(w:World)(h:bA c w v X)(hX:X.length≤3000000)(hs:s.size≤maxLen)(hcw:c<w.heap.size) :
  ah 53 #[v,.string s] w fun e w'=>∃v',e=.returned v'∧bA c w' v' (cN X s)∧ai w w' :=
 (Ba c v X s w h hX hs hcw).mono fun _ _ ⟨v',he,_,hl,hb⟩=>⟨v',he,hl,hb⟩
theorem bA.txt{c sb off n cap:Nat}{w:World}{X:af}(h:bA c w (.slice (some ⟨sb,off,none⟩) n cap) X):oJ sb off X w:=fun i hi=>by
 rcases h with⟨h,_⟩|⟨sb',off',cap',hv,h1,h2,h3,h4,h5⟩
 ·cases h
 ·injection hv with ha _ hc;injection ha with ha;injection ha with e1 e2 _;subst e1 e2;exact(h5 i hi).1
theorem nS(c:Nat)(v:Value)(X:af)(s:ByteArray)(w:World)(h:bA c w v X)(hl:X.length≤5000000) :
  ah 54 #[v,.string s] w fun e w'=>∃x:Int,e=.returned (.int .i64 x)∧(0≤x↔bc X s=true)∧w'=w:=by
 rcases id h with⟨rfl,rfl⟩|⟨sb,off,cap,rfl,_⟩
 ·go_enter func54,ntmps54;go_wp2;refine wp_loop_rounds 1 ?_;rw[rounds_succ];go_wp2;go_ret;exact⟨_,rfl,by simp[bc],rfl⟩
 ·refine(qT sb off cap X s w h.txt hl).mono ?_;rintro e w' ⟨x,rfl,hx,rfl⟩;exact⟨x,rfl,hx.trans (pd X s).symm,rfl⟩
def ns(B:Nat)(w0:World)(c sb off k cap:Nat)(t:ByteArray)(TT:af)(x:World):Prop:=x.cell? ⟨sb,off+k,none⟩=some (.string t)∧bA c x (.slice (some ⟨sb,off,none⟩) k cap) TT∧Below B w0 x
theorem ns.drew{B c sb off k cap:Nat}{w0 W:World}{t:ByteArray}{TT:af}(h:ns B w0 c sb off k cap t TT W):ns B w0 c sb off k cap t TT W.drew:=⟨h.1,h.2.1,h.2.2.drew⟩
theorem nT(c:Nat)(v:Value)(X:af)(w:World)(h:bA c w v X)(hX:X.length≤5000000) :
  ah 88 #[v] w (aA (.bool (db X)) w):=by
 rcases id h with⟨rfl,rfl⟩|⟨sb,off,cap,rfl,h1,h2,h3,h4,h5⟩
 ·go_enter func88,ntmps88;go_wp2;refine wp_loop_rounds 1 ?_;rw[rounds_succ];go_wp2;go_ret;exact⟨rfl,Below.refl _ _⟩
 ·unfold maxLen at h2;go_enter func88,ntmps88;go_wp2;go_loopw [3] (fun v3 wr=>∃k:Nat,v3=.int .i64 (k:Int)∧k≤X.length∧Hid (∀j (h:j<X.length),j<k→bc (X.take j) X[j]=false)∧ai w wr) (fun v3 _=>X.length-(intOf v3).toNat)
  case atStart=>exact⟨0,rfl,Nat.zero_le _,fun j _ hj=>absurd hj (Nat.not_lt_zero _),Below.refl _ _⟩
  case round =>
   obtain⟨k,rfl,hk,HA,hB⟩:=hrel;by_cases hlt:k<X.length
   ·have hc:=(hB.cell (p:=⟨sb,off+k,none⟩) h3).trans (h5 k hlt).1;have ht:=(h.call hB).take hk;obtain⟨TT,hTT⟩:∃T:af,T=X.take k:=⟨_,rfl⟩;have hTl:TT.length≤5000000:=by rw[hTT];simp;omega
    cases hq:bc (X.take k) X[k]
    ·have HN:Hid (∀j (h:j<X.length),j<k+1→bc (X.take j) X[j]=false):=fun j hj hlt'=>by
      by_cases e:j=k
      ·subst e;exact hq
      ·exact HA.out j hj (by omega)
     rw[←hTT]at ht hq
     clear HA hTT
     have HQ:Hid (bc TT X[k]=false):=hq
     clear hq
     generalize X[k]=t at hc HQ
     have hT:ns w.heap.size w c sb off k cap t TT wr:=⟨hc,ht,hB⟩
     have j0:(0:Int)≤(k:Int):=by omega
     have j1:(k:Int)≤(cap:Int):=by omega
     have j2:(k:Int)<(X.length:Int):=by omega
     have j3:(X.length:Int)≤(cap:Int):=by omega
     clear hc ht
     go_upto_region 4 with fail
     go_region_held3 (fun x=>x.cell? ⟨sb,off+k,none⟩=some (.string t)∧bA c x (.slice (some ⟨sb,off,none⟩) k cap) TT∧ai w x)
      ((show ns w.heap.size w c sb off k cap t TT _;first|(with_reducible exact hT3)|(with_reducible exact hT.drew)))
      (first
       |(go_at_call 54;refine(nS c _ TT t _ hT.drew.2.1 hTl).mono ?_;rintro e w3 ⟨x,rfl,hx,rfl⟩;have hT3:=hT.drew;have hx0:¬0≤x:=(fun hh=>by have:=hx.mp hh;rw[HQ.out]at this;exact absurd this (by decide));clear hx))
     all_goals go_wp2
     all_goals first
      |(exfalso;omega)
      |exact⟨⟨k+1,by go_num,by omega,HN.out,hT3.2.2⟩,by simp[intOf];omega⟩
    ·have HE:Hid (db X=true):=Nr hlt hq;rw[←hTT]at ht hq;clear HA hTT;have HQ:Hid (bc TT X[k]=true):=hq;clear hq;generalize X[k]=t at hc HQ;have hT:ns w.heap.size w c sb off k cap t TT wr:=⟨hc,ht,hB⟩;have j0:(0:Int)≤(k:Int):=by omega
     have j1:(k:Int)≤(cap:Int):=by omega
     have j2:(k:Int)<(X.length:Int):=by omega
     have j3:(X.length:Int)≤(cap:Int):=by omega
     clear hc ht;go_upto_region 4 with fail
     go_region_held3 (fun x=>x.cell? ⟨sb,off+k,none⟩=some (.string t)∧bA c x (.slice (some ⟨sb,off,none⟩) k cap) TT∧ai w x)
      ((show ns w.heap.size w c sb off k cap t TT _;first|(with_reducible exact hT3)|(with_reducible exact hT.drew)))
      (first
       |(go_at_call 54;refine(nS c _ TT t _ hT.drew.2.1 hTl).mono ?_;rintro e w3 ⟨x,rfl,hx,rfl⟩;have hT3:=hT.drew;have hx0:0≤x:=hx.mpr HQ.out;clear hx))
     all_goals go_wp2
     all_goals first
      |(exfalso;omega)
      |(go_ret;exact⟨by rw[HE.out];rfl,hT3.2.2⟩)
   ·have HE:Hid (db X=false):=Np fun j hj=>HA.out j hj (by omega)
    clear HA;go_wp2;go_ret;exact⟨by rw[HE.out];rfl,hB⟩
def aY(c:Nat)(w:World)(F:Ot):Prop:=∃vf vs,w.cell? ⟨c,0,none⟩=some vf∧w.cell? ⟨c,1,none⟩=some vs∧w.cell? ⟨c,2,none⟩=some (.bool F.bad)∧bA c w vf F.fr∧bA c w vs F.sc∧w.frozen? ⟨c,0,none⟩=false∧w.frozen? ⟨c,1,none⟩=false∧w.frozen? ⟨c,2,none⟩=false∧c<w.heap.size
theorem aY.call{c:Nat}{w w':World}{F:Ot}(h:aY c w F)(hb:ai w w'):aY c w' F:=by
 obtain⟨vf,vs,h0,h1,h2,l0,l1,f0,f1,f2,hz⟩:=h;exact⟨vf,vs,(hb.cell (p:=⟨c,0,none⟩) hz).trans h0,(hb.cell (p:=⟨c,1,none⟩) hz).trans h1,(hb.cell (p:=⟨c,2,none⟩) hz).trans h2,l0.call hb,l1.call hb,(hb.frozen (p:=⟨c,0,none⟩) hz).trans f0,(hb.frozen (p:=⟨c,1,none⟩) hz).trans f1,(hb.frozen (p:=⟨c,2,none⟩) hz).trans f2,Nat.lt_of_lt_of_le hz hb.size⟩
theorem aY.lt{c:Nat}{w:World}{F:Ot}(h:aY c w F):c<w.heap.size:=by
 obtain⟨_,_,_,_,_,_,_,_,_,_,hz⟩:=h;exact hz
theorem uX{c:Nat}{w:World}{F:Ot}(h:aY c w F)(o:Nat)(ho:o<3)(v:Value):∃u,w.cell? ⟨c,o,none⟩=some u∧(w.setCell ⟨c,o,none⟩ v).cell? ⟨c,o,none⟩=some v:=by
 obtain⟨vf,vs,h0,h1,h2,_⟩:=h;obtain rfl|rfl|rfl:o=0∨o=1∨o=2:=by omega
 ·exact⟨_,h0,World.cell?_setCell_same w _ _ h0⟩
 ·exact⟨_,h1,World.cell?_setCell_same w _ _ h1⟩
 ·exact⟨_,h2,World.cell?_setCell_same w _ _ h2⟩
theorem jH{c o o':Nat}(w:World)(v:Value)(h:o≠o'):(w.setCell ⟨c,o,none⟩ v).cell? ⟨c,o',none⟩=w.cell? ⟨c,o',none⟩ :=
 World.cell?_setCell_other w ⟨c,o,none⟩ ⟨c,o',none⟩ v (fun hh=>h (by injection hh with _ h2 _))
theorem bA.OW{c o:Nat}{w:World}{v u:Value}{X:af}(h:bA c w v X):bA c (w.setCell ⟨c,o,none⟩ u) v X:=h.but ((az.refl c w).setCur o u)
theorem aY.Pz{c:Nat}{w:World}{F:Ot}{v:Value}{Y:af}(h:aY c w F)(hv:bA c w v Y):aY c (w.setCell ⟨c,0,none⟩ v) ⟨Y,F.sc,F.bad⟩:=by
 obtain⟨u,_,hs⟩:=uX h 0 (by decide) v;obtain⟨vf,vs,h0,h1,h2,l0,l1,f0,f1,f2,hz⟩:=h;refine⟨v,vs,hs,(jH w v (by decide)).trans h1,(jH w v (by decide)).trans h2,hv.OW,l1.OW,?_,?_,?_,by simpa[World.setCell]using hz⟩;all_goals simpa[go_sem]using by assumption
theorem aY.PA{c:Nat}{w:World}{F:Ot}{v:Value}{Y:af}(h:aY c w F)(hv:bA c w v Y):aY c (w.setCell ⟨c,1,none⟩ v) ⟨F.fr,Y,F.bad⟩:=by
 obtain⟨u,_,hs⟩:=uX h 1 (by decide) v;obtain⟨vf,vs,h0,h1,h2,l0,l1,f0,f1,f2,hz⟩:=h;refine⟨vf,v,(jH w v (by decide)).trans h0,hs,(jH w v (by decide)).trans h2,l0.OW,hv.OW,?_,?_,?_,by simpa[World.setCell]using hz⟩;all_goals simpa[go_sem]using by assumption
theorem aY.O1{c:Nat}{w:World}{F:Ot}(h:aY c w F)(b:Bool):aY c (w.setCell ⟨c,2,none⟩ (.bool b)) ⟨F.fr,F.sc,b⟩:=by
 obtain⟨u,_,hs⟩:=uX h 2 (by decide) (.bool b);obtain⟨vf,vs,h0,h1,h2,l0,l1,f0,f1,f2,hz⟩:=h;refine⟨vf,vs,(jH w _ (by decide)).trans h0,(jH w _ (by decide)).trans h1,hs,l0.OW,l1.OW,?_,?_,?_,by simpa[World.setCell]using hz⟩;all_goals simpa[go_sem]using by assumption
theorem Bb(c:Nat)(F:Ot)(K:Kn)(vn vh:Value)(s:ByteArray)(w:World)(h:aY c w F)(hn:bA c w vn K.nm)(hl:K.nm.length≤5000000)(hF:F.fr.length≤2000000)(hs:s.size≤maxLen) :
  ah 146 #[.pointer (some ⟨c,0,none⟩),.agg #[vn,vh,.bool K.lp],.string s] w fun e w'=>e=.returned (.tuple #[])∧aY c w' (F.plus (df K s))∧az c w w':=by
 have hcz:=h.lt;have hb0:ai w (w.alloc (.cells #[vn,vh,.bool K.lp] 75)):=ay (Below.refl _ _) _;have h1:=h.call hb0;have hn1:=hn.call hb0;have hcz1:c<(w.alloc (.cells #[vn,vh,.bool K.lp] 75)).heap.size:=h1.lt;cases hq:bc K.nm s
 ·have HF:=aj (by unfold df;rw[hq];simp[Ot.plus,dp]:F.plus (df K s)=⟨cN F.fr s,F.sc,F.bad⟩);have HQ:=aj hq;clear hq;go_enter func146,ntmps146;go_wp2_with fail;refine(nS c _ K.nm s _ hn1 hl).mono ?_;rintro e w1 ⟨x,rfl,hx,rfl⟩;have hx0:¬0≤x:=fun hh=>by
   have:=hx.mp hh;rw[HQ.out]at this;exact absurd this (by decide)
  clear hx;obtain⟨vf,vs,c0,c1,c2,l0,l1,f0,f1,f2,_⟩:=id h1;go_wp2_with fail;refine(A9 c _ F.fr s _ l0 (by omega) hs hcz1).mono ?_;rintro e w2 ⟨v2,rfl,hv2,hb2⟩;have h2:=h1.call hb2;obtain⟨vf',vs',d0,d1,d2,_,_,g0,g1,g2,hz2⟩:=id h2;have hR:=h2.Pz hv2;have hBt:az c w (w2.setCell ⟨c,0,none⟩ v2):=(((az.refl c w).alloc _).call (az.j hb2)).setCur 0 v2;obtain⟨av,nv,cv,rfl⟩:∃av nv cv,v2=.slice av nv cv:=by
   rcases hv2 with⟨hv,_⟩|⟨sb,off,cap,hv,_⟩
   ·exact⟨_,_,_,hv⟩
   ·exact⟨_,_,_,hv⟩
  go_wp2;go_end0;exact⟨rfl,by rw[HF.out];exact hR,hBt⟩
 ·have HF:=aj (by unfold df;rw[hq];exact Ot.OO F:F.plus (df K s)=F);have HQ:=aj hq;clear hq;go_enter func146,ntmps146;go_wp2_with fail;refine(nS c _ K.nm s _ hn1 hl).mono ?_;rintro e w1 ⟨x,rfl,hx,rfl⟩;have hx0:0≤x:=hx.mpr HQ.out;clear hx;go_wp2;go_end0;exact⟨rfl,by rw[HF.out];exact h1,(az.refl c w).alloc _⟩
theorem A7(c:Nat)(F:Ot)(K:Kn)(vn vh:Value)(s:ByteArray)(w:World)(h:aY c w F)(hn:bA c w vh K.hd)(hl:K.hd.length≤5000000)(hF:F.sc.length≤2000000)(hs:s.size≤maxLen) :
  ah 148 #[.pointer (some ⟨c,0,none⟩),.agg #[vn,vh,.bool K.lp],.string s] w fun e w'=>e=.returned (.tuple #[])∧aY c w' (F.plus (dw K s))∧az c w w':=by
 have hcz:=h.lt;have hb0:ai w (w.alloc (.cells #[vn,vh,.bool K.lp] 75)):=ay (Below.refl _ _) _;have h1:=h.call hb0;have hn1:=hn.call hb0;have hcz1:c<(w.alloc (.cells #[vn,vh,.bool K.lp] 75)).heap.size:=h1.lt;cases hq:bc K.hd s
 ·have HF:=aj (by unfold dw;rw[hq];simp[Ot.plus,dp]:F.plus (dw K s)=⟨F.fr,cN F.sc s,F.bad⟩);have HQ:=aj hq;clear hq;go_enter func148,ntmps148;go_wp2_with fail;refine(nS c _ K.hd s _ hn1 hl).mono ?_;rintro e w1 ⟨x,rfl,hx,rfl⟩;have hx0:¬0≤x:=fun hh=>by
   have:=hx.mp hh;rw[HQ.out]at this;exact absurd this (by decide)
  clear hx;obtain⟨vf,vs,c0,c1,c2,l0,l1,f0,f1,f2,_⟩:=id h1;go_wp2_with fail;refine(A9 c _ F.sc s _ l1 (by omega) hs hcz1).mono ?_;rintro e w2 ⟨v2,rfl,hv2,hb2⟩;have h2:=h1.call hb2;obtain⟨vf',vs',d0,d1,d2,_,_,g0,g1,g2,hz2⟩:=id h2;have hR:=h2.PA hv2;have hBt:az c w (w2.setCell ⟨c,1,none⟩ v2):=(((az.refl c w).alloc _).call (az.j hb2)).setCur 1 v2;obtain⟨av,nv,cv,rfl⟩:∃av nv cv,v2=.slice av nv cv:=by
   rcases hv2 with⟨hv,_⟩|⟨sb,off,cap,hv,_⟩
   ·exact⟨_,_,_,hv⟩
   ·exact⟨_,_,_,hv⟩
  go_wp2;go_end0;exact⟨rfl,by rw[HF.out];exact hR,hBt⟩
 ·have HF:=aj (by unfold dw;rw[hq];exact Ot.OO F:F.plus (dw K s)=F);have HQ:=aj hq;clear hq;go_enter func148,ntmps148;go_wp2_with fail;refine(nS c _ K.hd s _ hn1 hl).mono ?_;rintro e w1 ⟨x,rfl,hx,rfl⟩;have hx0:0≤x:=hx.mpr HQ.out;clear hx;go_wp2;go_end0;exact⟨rfl,by rw[HF.out];exact h1,(az.refl c w).alloc _⟩
def jN(c:Nat)(w:World)(a:Option Addr)(L:af):Prop:=∀i (h:i<L.length),∃sb off,a=some ⟨sb,off,none⟩∧sb<w.heap.size∧sb≠c∧w.cell? ⟨sb,off+i,none⟩=some (.string L[i])∧L[i].size≤maxLen
theorem jN.arg{c:Nat}{w:World}{a:Option Addr}{L:af}(h:jN c w a L):aD w a L:=fun i hi=>by
 obtain⟨sb,off,ha,hs,_,hc,hm⟩:=h i hi;exact⟨sb,off,ha,hs,hc,hm⟩
theorem jN.but{c:Nat}{w w':World}{a:Option Addr}{L:af}(h:jN c w a L)(hb:az c w w'):jN c w' a L:=fun i hi=>by
 obtain⟨sb,off,ha,hs,hn,hc,hm⟩:=h i hi;exact⟨sb,off,ha,Nat.lt_of_lt_of_le hs hb.2.2.2.1,hn,(hb.cell sb (off+i) hs hn).trans hc,hm⟩
theorem jN.call{c:Nat}{w w':World}{a:Option Addr}{L:af}(h:jN c w a L)(hb:ai w w'):jN c w' a L:=h.but (az.j hb)
theorem jN.at{c:Nat}{w:World}{a:Option Addr}{L:af}(h:jN c w a L)(k:Nat)(hk:k<L.length):∃sb off,a=some ⟨sb,off,none⟩∧w.cell? ⟨sb,off+k,none⟩=some (.string (aa L k))∧(aa L k).size≤maxLen∧sb<w.heap.size∧sb≠c:=by
 obtain⟨sb,off,ha,hs,hn,hc,hm⟩:=h k hk;have e:aa L (k:Int)=L[k]:=by rw[eT (by omega) (by omega)];rfl
 rw[e];exact⟨sb,off,ha,hc,hm,hs,hn⟩
theorem A8(a:Option Addr)(cap:Nat)(L:af)(i e7:Int)(kk:Nat)(w:World)(h:aD w a L)(hL:L.length≤1048576)(hi0:0≤i)(hch:iy L kk (i+3) e7)(he0:0≤e7)(he1:e7<(L.length:Int))(he:ae (aa L e7) [41]=true) :
  ah 150 #[.slice a L.length cap,.int .i64 i] w fun e w'=>∃v,e=.returned (.tuple #[v,.int .i64 (e7+1)])∧a8 w' w.heap.size v ((ar L kk (i+3)).map (be L))∧ai w w':=by
 obtain⟨i0,hi,hz0,hz1,hz2⟩:=info_parts Tryz.OJ;have hce:=gJ kk _ hch he0;go_enter func150,ntmps150;go_wp2;go_loopw [1,6] (fun v1 v6 wr=>∃(x m:Nat) (Y:af),v1=.int .i64 (x:Int)∧iy L m (x:Int) e7∧a8 wr w.heap.size v6 Y∧Y.length≤x∧Hid (Y++(ar L m (x:Int)).map (be L)=(ar L kk (i+3)).map (be L))∧ai w wr) (fun v1 _ _=>e7.toNat-(intOf v1).toNat)
 case atStart =>
  obtain⟨q,hq⟩:∃q:Nat,i=(q:Int):=⟨i.toNat,by omega⟩;subst hq;exact⟨q+3,kk,[],by go_num,by rw[show((q+3:Nat):Int)=(q:Int)+3 by omega];exact hch,oe w _ (Nat.le_refl _),by simp,by rw[show((q+3:Nat):Int)=(q:Int)+3 by omega];rfl,ay (Below.refl _ _) _⟩
 case round =>
  obtain⟨x,m,Y,rfl,hm,hown,hY,HS,hB⟩:=hrel;have hxe:=gJ m _ hm he0;have hx:x<L.length:=by omega
  obtain⟨sb,off,rfl,hs,hc,_⟩:=h x hx;have hc':=(hB.cell (p:=⟨sb,off+x,none⟩) hs).trans hc;have HG:=aj (by rw[eT (by omega) (by omega)];rfl:aa L (x:Int)=L[x]);have hsz:=hB.size;obtain⟨g,cp,rfl⟩:=hown.shape;have hA:=h.call hB;cases m with
  |zero =>
   have ex:(x:Int)=e7:=hm;have b41:(L[x].toList==[41])=true:=by rw[←HG.out,ex];exact he
   have HE:=aj (by rw[←HS.out];show a8 wr w.heap.size _ (Y++[]);rw[List.append_nil];exact hown:a8 wr w.heap.size (.slice (some ⟨g,0,none⟩) Y.length cp) ((ar L kk (i+3)).map (be L)));subst ex;clear hc HG hown HS hch;generalize L[x]=t at hc' b41;go_wp2;go_ret2;exact⟨_,rfl,HE.out,hB⟩
  |succ m =>
   obtain⟨hp,hm2⟩:=hm;obtain⟨p0,p1,hpp⟩:=jY hp;have hpe:=lx hp;have hq:=gJ m _ hm2 he0;have b41:(L[x].toList==[41])=false:=by rw[←HG.out];exact rh hp
   have HI:=aj (by rw[←HS.out,List.append_assoc];rfl:Y++[be L x]++(ar L m (ag L x)).map (be L)=(ar L kk (i+3)).map (be L));have hc3:Y.length+1≤maxLen:=by unfold maxLen;omega
   have hc4:(Y.length+1)*16≤140737488355328:=by omega
   clear HS;rcases hpp with⟨q1,q2,q3,q4,q5⟩|⟨q1,q2,q3⟩
   ·have b40:(L[x].toList==[40])=true:=by rw[←HG.out];exact q1
    have hx1:x+1<L.length:=by omega
    obtain⟨sb',off',hae,hs',hcj,_⟩:=h (x+1) hx1;injection hae with hae;injection hae with e1 e2 _;subst e1;subst e2;have c2:=(hB.cell (p:=⟨sb,off+(x+1),none⟩) hs).trans hcj;have HP:=aj (by unfold be;rw[if_pos q1,eT (by omega) (by omega)];rfl:be L (x:Int)=L[x+1]);rw[HP.out]at HI;clear hc hcj HP HG;generalize L[x]=t at hc' b41 b40;generalize L[x+1]=u at c2 HI;have hcc1:∀j v,[Value.string u][j]?=some v→(wr.alloc (.cells #[.string u] 9)).cell? ((⟨wr.heap.size,0,none⟩:Addr).add j)=some v:=fun j v hj=>by
     match j,hj with
     |0,hj=>simp at hj;subst hj;simp[Addr.add]
    have hcc2:∀v∈[Value.string u],v.oneCell'=true:=fun v hu=>by simp at hu;subst hu;rfl
    have hc5:w.heap.size≤(wr.alloc (.cells #[.string u] 9)).heap.size:=by simp;omega
    go_wp2_with (at_builtin;refine wpList_append_own _ rfl _ _ 22 rfl w.heap.size 9 i0 (.string ⟨#[]⟩) 1 16 Tryz.underlying22 hi hz0 hz1 hz2 rfl (by decide) _ _ _ rfl (World.ownsRow.alloc hown.1 _) ⟨wr.heap.size,0,none⟩ 1 1 [.string u] rfl rfl hcc1 hcc2 hc3 hc4 hc5 ?_)
    intro v' w3 hown' hgrow hnil;have hR:a8 w3 w.heap.size v' (Y++[u]):=by
     refine⟨?_,fun er=>?_⟩
     ·unfold dq;rw[List.map_append,List.length_append];exact hown'
     ·simp[er]at hnil
    have hB3:ai w w3:=(ay hB _).grown hgrow hc5 (fun k hk=>(World.ownsRow.lt hown.1 k hk).1);clear hown' hgrow hnil;go_wp2_with fail;refine(dk _ cap L (x:Int) _ (h.call hB3) hL ⟨by omega,by omega⟩).mono ?_;rintro e w4 ⟨rfl,hb4⟩;have hR4:=hR.call hb4;have hB4:=aw hB3 hb4;obtain⟨z,hz⟩:∃z:Nat,ag L (x:Int)=(z:Int):=⟨(ag L x).toNat,by omega⟩;rw[hz]at HI hm2 hpe ⊢;go_wp2;go_roundw
    case rel=>exact⟨z,m,Y++[u],rfl,hm2,hR4,by simp;omega,HI.out,hB4⟩
    case measure=>simp[intOf];omega
   ·have b40:(L[x].toList==[40])=false:=by rw[←HG.out];exact q1
    have HP:=aj (by unfold be;rw[if_neg (by rw[q1];decide)];exact HG.out:be L (x:Int)=L[x]);rw[HP.out]at HI;clear hc HP HG;generalize L[x]=u at hc' b41 b40 HI;have hcc1:∀j v,[Value.string u][j]?=some v→(wr.alloc (.cells #[.string u] 9)).cell? ((⟨wr.heap.size,0,none⟩:Addr).add j)=some v:=fun j v hj=>by
     match j,hj with
     |0,hj=>simp at hj;subst hj;simp[Addr.add]
    have hcc2:∀v∈[Value.string u],v.oneCell'=true:=fun v hu=>by simp at hu;subst hu;rfl
    have hc5:w.heap.size≤(wr.alloc (.cells #[.string u] 9)).heap.size:=by simp;omega
    go_wp2_with (at_builtin;refine wpList_append_own _ rfl _ _ 22 rfl w.heap.size 9 i0 (.string ⟨#[]⟩) 1 16 Tryz.underlying22 hi hz0 hz1 hz2 rfl (by decide) _ _ _ rfl (World.ownsRow.alloc hown.1 _) ⟨wr.heap.size,0,none⟩ 1 1 [.string u] rfl rfl hcc1 hcc2 hc3 hc4 hc5 ?_)
    intro v' w3 hown' hgrow hnil;have hR:a8 w3 w.heap.size v' (Y++[u]):=by
     refine⟨?_,fun er=>?_⟩
     ·unfold dq;rw[List.map_append,List.length_append];exact hown'
     ·simp[er]at hnil
    have hB3:ai w w3:=(ay hB _).grown hgrow hc5 (fun k hk=>(World.ownsRow.lt hown.1 k hk).1);clear hown' hgrow hnil;go_wp2_with fail;refine(dk _ cap L (x:Int) _ (h.call hB3) hL ⟨by omega,by omega⟩).mono ?_;rintro e w4 ⟨rfl,hb4⟩;have hR4:=hR.call hb4;have hB4:=aw hB3 hb4;obtain⟨z,hz⟩:∃z:Nat,ag L (x:Int)=(z:Int):=⟨(ag L x).toNat,by omega⟩;rw[hz]at HI hm2 hpe ⊢;go_wp2;go_roundw
    case rel=>exact⟨z,m,Y++[u],rfl,hm2,hR4,by simp;omega,HI.out,hB4⟩
    case measure=>simp[intOf];omega
theorem Hs(a:Option Addr)(cap:Nat)(L:af)(i e7:Int)(kk:Nat)(w:World)(h:aD w a L)(hL:L.length≤1048576)(hi0:0≤i)(hch:iy L kk (i+3) e7)(he0:0≤e7)(he1:e7<(L.length:Int))(he:ae (aa L e7) [41]=true) :
  ah 179 #[.slice a L.length cap,.int .i64 i] w (aA (.bool ((ar L kk (i+3)).any fun p=>ae (aa L p) [40])) w):=by
 have hce:=gJ kk _ hch he0;go_enter func179,ntmps179;go_wp2;go_loopw [5] (fun v5 wr=>∃x m:Nat,v5=.int .i64 (x:Int)∧iy L m (x:Int) e7∧Hid (((ar L m (x:Int)).any fun p=>ae (aa L p) [40])=((ar L kk (i+3)).any fun p=>ae (aa L p) [40]))∧ai w wr) (fun v5 _=>e7.toNat-(intOf v5).toNat)
 case atStart =>
  obtain⟨q,hq⟩:∃q:Nat,i=(q:Int):=⟨i.toNat,by omega⟩;subst hq;exact⟨q+3,kk,by go_num,by rw[show((q+3:Nat):Int)=(q:Int)+3 by omega];exact hch,by rw[show((q+3:Nat):Int)=(q:Int)+3 by omega];rfl,Below.refl _ _⟩
 case round =>
  obtain⟨x,m,rfl,hm,HS,hB⟩:=hrel;have hxe:=gJ m _ hm he0;have hx:x<L.length:=by omega
  obtain⟨sb,off,rfl,hs,hc,_⟩:=h x hx;have hc':=(hB.cell (p:=⟨sb,off+x,none⟩) hs).trans hc;have HG:=aj (by rw[eT (by omega) (by omega)];rfl:aa L (x:Int)=L[x]);cases m with
  |zero =>
   have ex:(x:Int)=e7:=hm;have b41:(L[x].toList==[41])=true:=by rw[←HG.out,ex];exact he
   have HE:=aj (by rw[←HS.out];rfl:((ar L kk (i+3)).any fun p=>ae (aa L p) [40])=false);subst ex;clear hc HG HS hch;generalize L[x]=t at hc' b41;go_wp2;go_ret;exact⟨by rw[HE.out];rfl,hB⟩
  |succ m =>
   obtain⟨hp,hm2⟩:=hm;have hpe:=lx hp;have b41:(L[x].toList==[41])=false:=by rw[←HG.out];exact rh hp
   have hq:=gJ m _ hm2 he0;have HI:=aj (by rw[←HS.out];rfl:(ae (aa L x) [40]||((ar L m (ag L x)).any fun p=>ae (aa L p) [40]))=((ar L kk (i+3)).any fun p=>ae (aa L p) [40]));rw[HG.out]at HI;clear HS HG hc;cases h40:ae L[x] [40]
   ·have b40:(L[x].toList==[40])=false:=h40;have HJ:=aj (by rw[←HI.out,h40];rfl:((ar L m (ag L x)).any fun p=>ae (aa L p) [40])=((ar L kk (i+3)).any fun p=>ae (aa L p) [40]));clear h40 HI;generalize L[x]=t at hc' b41 b40;go_wp2_with fail;refine(dk _ cap L (x:Int) _ (h.call hB) hL ⟨by omega,by omega⟩).mono ?_;rintro e w4 ⟨rfl,hb4⟩;have hB4:=aw hB hb4;obtain⟨z,hz⟩:∃z:Nat,ag L (x:Int)=(z:Int):=⟨(ag L x).toNat,by omega⟩;rw[hz]at HJ hm2 hpe ⊢;go_wp2;go_roundw
    case rel=>exact⟨z,m,rfl,hm2,HJ.out,hB4⟩
    case measure=>simp[intOf];omega
   ·have b40:(L[x].toList==[40])=true:=h40;have HE:=aj (by rw[←HI.out,h40];rfl:((ar L kk (i+3)).any fun p=>ae (aa L p) [40])=true);clear h40 HI;generalize L[x]=t at hc' b41 b40;go_wp2;go_ret;exact⟨by rw[HE.out];rfl,hB⟩
def kb(L:af)(i:Int):Nat:=(L.length+1)*(i.toNat+1)
theorem jE{L:af}{i j:Int}(h0:0≤i)(h:i<j):kb L i+(L.length+1)≤kb L j:=by
 unfold kb;have h1:i.toNat+1+1≤j.toNat+1:=by omega
 have:=Nat.mul_le_mul_left (L.length+1) h1;rw[Nat.mul_succ]at this;exact this
theorem vy{L:af}{i j:Int}(h:i≤j):kb L i≤kb L j:=by
 unfold kb;exact Nat.mul_le_mul_left _ (by omega)
theorem jD{L:af}{i:Int}(hL:L.length≤2000)(h:i≤(L.length:Int)):kb L i≤4004001:=by
 unfold kb;have h1:i.toNat+1≤2001:=by omega
 have h2:L.length+1≤2001:=by omega
 exact Nat.le_trans (Nat.mul_le_mul h2 h1) (by decide)
def bZ(F o:Ot):Prop:=F.fr.length+o.fr.length≤2000000∧F.sc.length+o.sc.length≤2000000
theorem bZ.left{F a b:Ot}(h:bZ F (a.add b)):bZ F a:=by
 unfold bZ at h ⊢;simp only[Ot.add,List.length_append]at h;omega
theorem bZ.right{F a b:Ot}(h:bZ F (a.add b)):bZ (F.plus a) b:=by
 unfold bZ at h ⊢;simp only[Ot.add,List.length_append]at h;have h1:=tB a.fr F.fr;have h2:=tB a.sc F.sc;simp only[Ot.plus];omega
theorem bZ.use{F:Ot}{K:Kn}{s:ByteArray}(h:bZ F (df K s)):F.fr.length≤2000000:=by unfold bZ at h;omega
theorem bZ.O9{F:Ot}{K:Kn}{s:ByteArray}(h:bZ F (dw K s)):F.sc.length≤2000000:=by unfold bZ at h;omega
def bu(c:Nat)(w:World)(a:Option Addr)(L:af)(vn vh:Value)(K:Kn)(F:Ot):Prop:=aY c w F∧jN c w a L∧bA c w vn K.nm∧bA c w vh K.hd
theorem bu.but{c:Nat}{w w':World}{a:Option Addr}{L:af}{vn vh:Value}{K:Kn}{F G:Ot}(h:bu c w a L vn vh K F)(hb:az c w w')(hf:aY c w' G):bu c w' a L vn vh K G:=⟨hf,h.2.1.but hb,h.2.2.1.but hb,h.2.2.2.but hb⟩
theorem bu.call{c:Nat}{w w':World}{a:Option Addr}{L:af}{vn vh:Value}{K:Kn}{F:Ot}(h:bu c w a L vn vh K F)(hb:ai w w'):bu c w' a L vn vh K F:=⟨h.1.call hb,h.2.1.call hb,h.2.2.1.call hb,h.2.2.2.call hb⟩
theorem bu.lt{c:Nat}{w:World}{a:Option Addr}{L:af}{vn vh:Value}{K:Kn}{F:Ot}(h:bu c w a L vn vh K F):c<w.heap.size:=h.1.lt
def iP(a:Option Addr)(cap:Nat)(L:af)(c n:Nat):Prop:=∀(i:Int) (K:Kn) (F:Ot) (vn vh:Value) (w:World),bu c w a L vn vh K F→aH L i→2*aB L i+1≤n→K.nm.length≤kb L i→K.hd.length≤kb L i→bZ F (wk L n 0 false i K) →
 ah 90 #[.pointer (some ⟨c,0,none⟩),.slice a L.length cap,.int .i64 i,.agg #[vn,vh,.bool K.lp]] w fun e w'=>e=.returned (.tuple #[])∧aY c w' (F.plus (wk L n 0 false i K))∧az c w w'
def lH(a:Option Addr)(cap:Nat)(L:af)(c n:Nat):Prop:=∀(v:Bool) (i e:Int) (k:Nat) (K:Kn) (F:Ot) (vn vh:Value) (w:World),bu c w a L vn vh K F→ey L k i e→jj L e→0≤e→e≤(L.length:Int)→2*aB L i+2≤n→K.nm.length+(L.length+1)≤kb L i→K.hd.length+(L.length+1)≤kb L i→bZ F (wk L n 1 v i K) →
 ah 48 #[.pointer (some ⟨c,0,none⟩),.slice a L.length cap,.int .i64 i,.agg #[vn,vh,.bool K.lp],.bool v] w fun e w'=>e=.returned (.tuple #[])∧aY c w' (F.plus (wk L n 1 v i K))∧az c w w'
theorem dC{L:af}{i j:Int}(h0:0≤i)(h:i<j)(hj:j≤(L.length:Int)+1):aB L j+1≤aB L i:=by
 unfold aB;rw[if_neg (by omega),if_neg (by omega)];omega
theorem uQ{L:af}{i j:Int}(h0:0≤i)(h:i≤j):aB L j≤aB L i:=by
 unfold aB;rw[if_neg (by omega),if_neg (by omega)];omega
theorem vP{a:Option Addr}{cap:Nat}{L:af}{c n:Nat}(hIt:iP a cap L c n)(hL:L.length≤2000)(i e:Int)(k:Nat)(K:Kn)(F:Ot)(vn vh:Value)(w:World)(hE:bu c w a L vn vh K F)(hch:dd L k i e)(he0:0≤e)(he1:e<(L.length:Int))(he:ae (aa L e) [41]=true)
  (hn:2*aB L i+1≤n) (hkn:K.nm.length≤kb L i) (hkh:K.hd.length≤kb L i) (hb:bZ F (aW (fun p=>wk L n 0 false p K) (ar L k i))) :
  ah 149 #[.pointer (some ⟨c,0,none⟩),.slice a L.length cap,.int .i64 i,.agg #[vn,vh,.bool K.lp]] w fun e w'=>e=.returned (.tuple #[])∧aY c w' (F.plus (aW (fun p=>wk L n 0 false p K) (ar L k i)))∧az c w w':=by
 have hce:=eX k i hch he0;have hcz:=hE.lt;have hT0:=xw w vn vh (.bool K.lp) 75;have hE0:=hE.call (ay (Below.refl w.heap.size w) (.cells #[vn,vh,.bool K.lp] 75));have hB0:az c w (w.alloc (.cells #[vn,vh,.bool K.lp] 75)):=(az.refl c w).alloc _;go_enter func149,ntmps149;go_wp2;go_loopw [2] (fun v2 wr=>∃(x m:Nat) (G:Ot),v2=.int .i64 (x:Int)∧i≤(x:Int)∧dd L m (x:Int) e∧bu c wr a L vn vh K G∧fO w.heap.size vn vh (.bool K.lp) wr∧az c w wr∧Hid (G.plus (aW (fun p=>wk L n 0 false p K) (ar L m (x:Int)))=F.plus (aW (fun p=>wk L n 0 false p K) (ar L k i)))∧Hid (bZ G (aW (fun p=>wk L n 0 false p K) (ar L m (x:Int))))) (fun v2 _=>e.toNat-(intOf v2).toNat)
 case atStart =>
  obtain⟨q,hq⟩:∃q:Nat,i=(q:Int):=⟨i.toNat,by omega⟩;subst hq;exact⟨q,k,F,rfl,Int.le_refl _,hch,hE0,hT0,hB0,rfl,hb⟩
 case round =>
  obtain⟨x,m,G,rfl,hix,hm,hEr,hTr,hBr,HP,HB⟩:=hrel;have hxe:=eX m _ hm he0;have hx:x<L.length:=by omega
  obtain⟨sb,off,rfl,hc,_,_,_⟩:=hEr.2.1.at x hx;cases m with
  |zero =>
   have ex:(x:Int)=e:=hm;have b41:((aa L x).toList==[41])=true:=by rw[ex];exact he
   have HF:=aj (by rw[←HP.out];show aY c wr (G.plus Ot.none);rw[Ot.OO];exact hEr.1:aY c wr (F.plus (aW (fun p=>wk L n 0 false p K) (ar L k i))));clear HP HB ex;generalize aa L (x:Int)=t at hc b41;go_wp2;go_end0;exact⟨rfl,HF.out,hBr⟩
  |succ m =>
   obtain⟨hv,hm2⟩:=hm;have hve:=hv.ends;have b41:((aa L x).toList==[41])=false:=hv.not41;have hb2:=HB.out;have hfar:=uQ (L:=L) (by omega:0≤i) hix;have hk1:=vy (L:=L) hix;have hq:=eX m _ hm2 he0;obtain⟨t0,t1,t2,tz⟩:=id hTr;have HC:Hid (ah 90 #[.pointer (some ⟨c,0,none⟩),.slice (some ⟨sb,off,none⟩) L.length cap,.int .i64 x,.agg #[vn,vh,.bool K.lp]] wr fun e w'=>e=.returned (.tuple #[])∧aY c w' (G.plus (wk L n 0 false (x:Int) K))∧az c wr w'):=hIt (x:Int) K G vn vh wr hEr hv (by omega) (by omega) (by omega) hb2.left;have HBN:Hid (bZ (G.plus (wk L n 0 false (x:Int) K)) (aW (fun p=>wk L n 0 false p K) (ar L m (ag L x)))):=hb2.right;have HPN:=aj (by rw[←HP.out,←Ot.OM];rfl:(G.plus (wk L n 0 false (x:Int) K)).plus (aW (fun p=>wk L n 0 false p K) (ar L m (ag L x)))=F.plus (aW (fun p=>wk L n 0 false p K) (ar L k i)));clear HP HB hb2 hb;generalize wk L n 0 false (x:Int) K=o1 at HC HBN HPN;generalize aa L (x:Int)=t at hc b41;go_wp2_with fail;refine HC.out.mono ?_;rintro e w2 ⟨rfl,hF2,hb2⟩;have hE2:=hEr.but hb2 hF2;have hT2:=hTr.but hb2 (by omega);have hB2:=hBr.trans hb2;clear HC;go_wp2_with fail;refine(dk _ cap L (x:Int) _ hE2.2.1.arg (by omega) ⟨by omega,by omega⟩).mono ?_;rintro e w3 ⟨rfl,hb3⟩;have hE3:=hE2.call hb3;have hT3:=hT2.call hb3;have hB3:=hB2.trans (az.j hb3);obtain⟨z,hz⟩:∃z:Nat,ag L (x:Int)=(z:Int):=⟨(ag L x).toNat,by omega⟩;rw[hz]at HBN HPN hm2 hve ⊢;go_wp2;go_roundw
   case rel=>exact⟨z,m,_,rfl,by omega,hm2,hE3,hT3,hB3,HPN.out,HBN.out⟩
   case measure=>simp[intOf];omega
theorem a8.but{c B:Nat}{w w':World}{v:Value}{X:af}(h:a8 w B v X)(hb:az c w w')(hc:c<B):a8 w' B v X:=by
 refine⟨⟨h.1.1,?_⟩,h.2⟩;rcases h.1.2 with hn|⟨g,cap,cur,rfl,hB,hg,rest⟩
 ·exact .inl hn
 ·have hlt:g<w.heap.size:=(Array.getElem?_eq_some_iff.1 hg).1;exact .inr ⟨g,cap,cur,rfl,hB,(hb.2.2.2.2 g hlt (by omega)).trans hg,rest⟩
theorem oO(L:af)(hid:Bool){e:Int}:∀k i,ey L k i e→dA L hid k i=(ar L k i).flatMap (aN L hid)
 |0,_,_=>rfl
 |k+1,i,h=>by
  show aN L hid i++dA L hid k (fm L 1 i)=(i::ar L k (ag L i)).flatMap (aN L hid);rw[List.flatMap_cons,iS h.1,oO L hid k _ h.2]
theorem se(L:af)(hid:Bool){e:Int}:∀k i,ey L k i e→0≤e→((dA L hid k i).length:Int)≤e-i
 |0,i,h,he=>by
  have:i=e:=h;show((0:Nat):Int)≤e-i;omega
 |k+1,i,h,he=>by
  have h1:=se L hid k _ h.2 he;have h2:=tp (L:=L) (i:=i) hid h.1;have h3:=fR h.1;have h4:=gU k _ h.2 he;show((aN L hid i++dA L hid k (fm L 1 i)).length:Int)≤e-i;rw[List.length_append];omega
theorem xj{L:af}{a b:Int}{s:ByteArray}(h:s∈dN L a b):s∈L:=List.mem_of_mem_drop (List.mem_of_mem_take h)
theorem wY{L:af}{i:Int}(h0:0≤i)(h1:i<(L.length:Int)):aa L i∈L:=by
 rw[eT h0 h1];exact List.getElem_mem _
theorem KF{L:af}{hid:Bool}{i:Int}(h:fm L 1 i≠-1){s:ByteArray}(hs:s∈aN L hid i):s∈L:=by
 unfold aN at hs;have hl:=fR h;split at hs
 ·split at hs
  ·exact xj hs
  ·cases hs
 ·split at hs
  ·exact xj hs
  ·split at hs
   ·rw[List.mem_singleton]at hs;rw[hs];exact wY (by omega) (by omega)
   ·split at hs
    ·exact xj hs
    ·cases hs
theorem uD{L:af}{hid:Bool}{e:Int}:∀k i,ey L k i e→∀s∈dA L hid k i,s∈L
 |0,_,_,s,hs=>by cases hs
 |k+1,i,h,s,hs=>by
  rcases List.mem_append.mp hs with hs|hs
  ·exact KF h.1 hs
  ·exact uD k _ h.2 s hs
theorem Mk{w:World}{a:Option Addr}{L:af}(h:aD w a L){s:ByteArray}(hs:s∈L):s.size≤maxLen:=by
 obtain⟨i,hi,rfl⟩:=List.getElem_of_mem hs;obtain⟨_,_,_,_,_,hm⟩:=h i hi;exact hm
theorem xi{w:World}{a:Option Addr}{L X:af}(h:aD w a L)(hs:∀s∈X,s∈L):∀i (h:i<X.length),X[i].size≤maxLen:=fun _ hi=>Mk h (hs _ (List.getElem_mem hi))
theorem pG(F:Ot)(b:Bool):F.plus ⟨[],[],b⟩=⟨F.fr,F.sc,F.bad||b⟩:=by simp[Ot.plus,dp]
theorem a8.news{w:World}{B g n cap:Nat}{X:af}(h:a8 w B (.slice (some ⟨g,0,none⟩) n cap) X):∀j u,(X.map Value.string)[j]?=some u→w.cell? ((⟨g,0,none⟩:Addr).add j)=some u:=h.cells
theorem wi(X:af):∀u∈X.map Value.string,u.oneCell'=true:=fun u hu=>by
 obtain⟨z,_,rfl⟩:=List.mem_map.1 hu;rfl
theorem az.grown{c:Nat}{w W W':World}{row:Option Nat}(h:az c w W)(hg:W.grownBy W' row)(hr:∀k,row=some k→w.heap.size≤k):az c w W' :=
 ⟨hg.os.trans h.1,hg.tape.trans h.2.1,hg.output.trans h.2.2.1,Nat.le_trans h.2.2.2.1 hg.size,fun k hk hc=>(hg.block k (Nat.lt_of_lt_of_le hk h.2.2.2.1) (fun e=>by have:=hr k e.symm;omega)).trans (h.2.2.2.2 k hk hc)⟩
theorem aY.later{c:Nat}{w W:World}{F:Ot}{b:Bool}(h:aY c w F)(hb:az c w W)(h0:W.cell? ⟨c,0,none⟩=w.cell? ⟨c,0,none⟩)(h1:W.cell? ⟨c,1,none⟩=w.cell? ⟨c,1,none⟩)(h2:W.cell? ⟨c,2,none⟩=some (.bool b))(hf:∀o,W.frozen? ⟨c,o,none⟩=w.frozen? ⟨c,o,none⟩):aY c W ⟨F.fr,F.sc,b⟩:=by
 obtain⟨vf,vs,c0,c1,c2,l0,l1,f0,f1,f2,hz⟩:=h;exact⟨vf,vs,h0.trans c0,h1.trans c1,h2,l0.but hb,l1.but hb,(hf 0).trans f0,(hf 1).trans f1,(hf 2).trans f2,Nat.lt_of_lt_of_le hz hb.2.2.2.1⟩
def kc(c:Nat)(w W:World)(b:Bool):Prop:=W.cell? ⟨c,0,none⟩=w.cell? ⟨c,0,none⟩∧W.cell? ⟨c,1,none⟩=w.cell? ⟨c,1,none⟩∧W.cell? ⟨c,2,none⟩=some (.bool b)∧∀o,W.frozen? ⟨c,o,none⟩=w.frozen? ⟨c,o,none⟩
theorem kc.same{c:Nat}{w W W':World}{b:Bool}(h:kc c w W b)(hs:W'.heap[c]?=W.heap[c]?):kc c w W' b :=
 ⟨(World.cell?_of_block (w:=W) (a:=⟨c,0,none⟩) hs).trans h.1,(World.cell?_of_block (w:=W) (a:=⟨c,1,none⟩) hs).trans h.2.1,(World.cell?_of_block (w:=W) (a:=⟨c,2,none⟩) hs).trans h.2.2.1,fun o=>(World.frozen?_of_block (w:=W) (a:=⟨c,o,none⟩) hs).trans (h.2.2.2 o)⟩
theorem aY.Pa{c:Nat}{w W:World}{F:Ot}{b:Bool}(h:aY c w F)(hb:az c w W)(hm:kc c w W b):aY c W ⟨F.fr,F.sc,b⟩:=h.later hb hm.1 hm.2.1 hm.2.2.1 hm.2.2.2
theorem BG{c:Nat}{w W:World}{F:Ot}(h:aY c w F)(hs:W.heap[c]?=w.heap[c]?)(b:Bool):kc c w (W.setCell ⟨c,2,none⟩ (.bool b)) b:=by
 have hk:∀o,W.cell? ⟨c,o,none⟩=w.cell? ⟨c,o,none⟩:=fun o=>World.cell?_of_block (w:=w) (a:=⟨c,o,none⟩) hs
 have hkf:∀o,W.frozen? ⟨c,o,none⟩=w.frozen? ⟨c,o,none⟩:=fun o=>World.frozen?_of_block (w:=w) (a:=⟨c,o,none⟩) hs
 obtain⟨vf,vs,c0,c1,c2,_⟩:=h;exact⟨(jH W _ (by decide)).trans (hk 0),(jH W _ (by decide)).trans (hk 1),World.cell?_setCell_same W _ _ ((hk 2).trans c2),fun o=>by rw[World.frozen?_setCell];exact hkf o⟩
def cX(B:Nat)(v0 v1 v2:Value)(x:World):Prop:=fO B v0 v1 v2 x∧x.frozen? ⟨B,0,none⟩=false∧x.frozen? ⟨B,1,none⟩=false∧x.frozen? ⟨B,2,none⟩=false
theorem gH(w:World)(v0 v1 v2:Value)(T:TypeId):cX w.heap.size v0 v1 v2 (w.alloc (.cells #[v0,v1,v2] T)):=by
 obtain⟨_,_,_,f0,f1,f2,_⟩:=wA w v0 v1 v2 T;exact⟨xw w v0 v1 v2 T,f0,f1,f2⟩
theorem cX.same{B:Nat}{v0 v1 v2:Value}{W W':World}(h:cX B v0 v1 v2 W)(hs:W'.heap[B]?=W.heap[B]?)(hz:W.heap.size≤W'.heap.size):cX B v0 v1 v2 W':=by
 obtain⟨⟨h0,h1,h2,hB⟩,f0,f1,f2⟩:=h;exact⟨⟨(World.cell?_of_block (w:=W) (a:=⟨B,0,none⟩) hs).trans h0,(World.cell?_of_block (w:=W) (a:=⟨B,1,none⟩) hs).trans h1,(World.cell?_of_block (w:=W) (a:=⟨B,2,none⟩) hs).trans h2,Nat.lt_of_lt_of_le hB hz⟩,(World.frozen?_of_block (w:=W) (a:=⟨B,0,none⟩) hs).trans f0,(World.frozen?_of_block (w:=W) (a:=⟨B,1,none⟩) hs).trans f1,(World.frozen?_of_block (w:=W) (a:=⟨B,2,none⟩) hs).trans f2⟩
theorem cX.lt{B:Nat}{v0 v1 v2:Value}{W:World}(h:cX B v0 v1 v2 W):B<W.heap.size:=h.1.2.2.2
theorem cX.call{B:Nat}{v0 v1 v2:Value}{W W':World}(h:cX B v0 v1 v2 W)(hb:ai W W'):cX B v0 v1 v2 W':=h.same (hb.block B h.lt) hb.size
theorem cX.but{B c:Nat}{v0 v1 v2:Value}{W W':World}(h:cX B v0 v1 v2 W)(hb:az c W W')(hn:B≠c):cX B v0 v1 v2 W':=h.same (hb.2.2.2.2 B h.lt hn) hb.2.2.2.1
theorem cX.grown{B:Nat}{v0 v1 v2:Value}{W W':World}{row:Option Nat}(h:cX B v0 v1 v2 W)(hg:W.grownBy W' row)(hr:row≠some B):cX B v0 v1 v2 W':=h.same (hg.block B h.lt (fun e=>hr e.symm)) hg.size
theorem cX.O0{B:Nat}{v0 v1 v2:Value}{W:World}(h:cX B v0 v1 v2 W)(u:Value):cX B u v1 v2 (W.setCell ⟨B,0,none⟩ u):=by
 obtain⟨⟨h0,h1,h2,hB⟩,f0,f1,f2⟩:=h;exact⟨⟨World.cell?_setCell_same W _ _ h0,(jH W u (by decide)).trans h1,(jH W u (by decide)).trans h2,by simpa[World.setCell]using hB⟩,by rw[World.frozen?_setCell];exact f0,by rw[World.frozen?_setCell];exact f1,by rw[World.frozen?_setCell];exact f2⟩
theorem cX.Pd{B:Nat}{v0 v1 v2:Value}{W:World}(h:cX B v0 v1 v2 W)(u:Value):cX B v0 u v2 (W.setCell ⟨B,1,none⟩ u):=by
 obtain⟨⟨h0,h1,h2,hB⟩,f0,f1,f2⟩:=h;exact⟨⟨(jH W u (by decide)).trans h0,World.cell?_setCell_same W _ _ h1,(jH W u (by decide)).trans h2,by simpa[World.setCell]using hB⟩,by rw[World.frozen?_setCell];exact f0,by rw[World.frozen?_setCell];exact f1,by rw[World.frozen?_setCell];exact f2⟩
theorem cX.O3{B:Nat}{v0 v1 v2:Value}{W:World}(h:cX B v0 v1 v2 W)(u:Value):cX B v0 v1 u (W.setCell ⟨B,2,none⟩ u):=by
 obtain⟨⟨h0,h1,h2,hB⟩,f0,f1,f2⟩:=h;exact⟨⟨(jH W u (by decide)).trans h0,(jH W u (by decide)).trans h1,World.cell?_setCell_same W _ _ h2,by simpa[World.setCell]using hB⟩,by rw[World.frozen?_setCell];exact f0,by rw[World.frozen?_setCell];exact f1,by rw[World.frozen?_setCell];exact f2⟩
theorem a8.set{w:World}{B:Nat}{v:Value}{X:af}(h:a8 w B v X){p:Addr}(u:Value)(hp:p.block<B):a8 (w.setCell p u) B v X :=
 h.grown (row:=some p.block) ⟨rfl,rfl,rfl,by simp[World.setCell],fun k _ hk=>Below.heap_setCell w p u k (fun e=>hk (by rw[e]))⟩ (fun e=>by
  have:=(World.ownsRow.lt h.1 p.block e).1;omega)
set_option maxRecDepth 100000 in
theorem Hn{a:Option Addr}{cap:Nat}{L:af}{c n:Nat}(hIt:iP a cap L c n)(hL:L.length≤2000):lH a cap L c (n+1):=fun v i e k K F vn vh w hE hch hend he0 he1 hn hkn hkh hb=>by
 obtain⟨i0,hi,hz0,hz1,hz2⟩:=info_parts Tryz.OJ;have hce:=gU k i hch he0;have hcv:=(eK k i hch).1;have hplc:=ef hcv he0 he1 hend;have hX:=se L false k i hch he0;have hY:=se L true k i hch he0;have hXm:=xi hE.2.1.arg (uD (hid:=false) k i hch);have hYm:=xi hE.2.1.arg (uD (hid:=true) k i hch);have hcz:=hE.lt;have HW:Hid (F.plus (wk L (n+1) 1 v i K)=(F.plus ⟨[],[],db (dA L false k i)||db (dA L true k i)⟩).plus (iQ L (fun p=>wk L n 0 false p (kD (cz K (dA L false k i)) (dA L true k i))) v (ar L k i))):=by
  show F.plus (jQ L (wk L n) v i K)=_;unfold jQ;rw[hplc,←oO L false k i hch,←oO L true k i hch,Ot.OM]
 have HBD:Hid (bZ (F.plus ⟨[],[],db (dA L false k i)||db (dA L true k i)⟩) (iQ L (fun p=>wk L n 0 false p (kD (cz K (dA L false k i)) (dA L true k i))) v (ar L k i))):=by
  have hb':bZ F (jQ L (wk L n) v i K):=hb;unfold jQ at hb';rw[hplc,←oO L false k i hch,←oO L true k i hch]at hb';exact hb'.right
 clear hb;have hB0b:=ay (Below.refl w.heap.size w) (.cells #[vn,vh,.bool K.lp] 75);have hE0:=hE.call hB0b;have hX0:=gH w vn vh (.bool K.lp) 75;go_enter func48,ntmps48;go_wp2_with fail;refine(sU a cap L k i e _ hE0.2.1.arg (by omega) hce.1 he1 he0 hend hch).mono ?_;rintro r w1 ⟨v10,rfl,hN1,hb1⟩;have hE1:=hE0.call hb1;have hX1:=hX0.call hb1;have hbw1:=aw hB0b hb1;go_wp2_with fail;refine(Ho a cap L k i e _ hE1.2.1.arg (by omega) hce.1 he1 he0 hend hch).mono ?_;rintro r w2 ⟨v11,rfl,hM2,hb2⟩;have hE2:=hE1.call hb2;have hX2:=hX1.call hb2;have hbw2:=aw hbw1 hb2;have hN2:=hN1.call hb2;have hN2':a8 w2 (w.heap.size+1) v10 (dA L false k i):=⟨mc hN2.1 (by simp),hN2.2⟩;have hM2':a8 w2 (w.heap.size+1) v11 (dA L true k i):=⟨mc hM2.1 hX1.lt,hM2.2⟩;clear hN1 hM2 hN2 hb1 hb2 hE0 hE1 hX0 hX1 hbw1;generalize dA L false k i=X at HW HBD hN2' hX hXm;generalize dA L true k i=Y at HW HBD hM2' hY hYm;obtain⟨g1,cp1,rfl⟩:=hN2'.shape;obtain⟨g2,cp2,rfl⟩:=hM2'.shape;have hLX:=hN2'.OL (c:=c) (by omega) hXm;have hLY:=hM2'.OL (c:=c) (by omega) hYm;go_upto_region 3 with fail;go_cut [31] (fun _ wc=>az c w2 wc∧kc c w wc (F.bad||(db X||db Y)))
 case first =>
  obtain⟨vf,vs,c0,c1,c2,l0,l1,f0,f1,f2,hz⟩:=id hE2.1;have HFIN:Hid (∀(W:World) (b:Bool),ai w2 W→az c w2 (W.setCell ⟨c,2,none⟩ (.bool b))∧kc c w (W.setCell ⟨c,2,none⟩ (.bool b)) b):=fun W b hB=>⟨(az.j hB).setCur 2 _,BG hE.1 ((hB.block c hz).trans (hbw2.block c hcz)) b⟩
  have hkc:∀W:World,ai w2 W→W.cell? ⟨c,2,none⟩=some (.bool F.bad)∧W.frozen? ⟨c,2,none⟩=false:=fun W hB=>⟨(hB.cell (p:=⟨c,2,none⟩) hz).trans c2,(hB.frozen (p:=⟨c,2,none⟩) hz).trans f2⟩
  have HKC:=aj hkc;clear hkc;cases hFb:F.bad
  ·rw[hFb]at c2;cases ht1:db X
   ·cases ht2:db Y
    ·have H1:=aj ht1;have H2:=aj ht2;have HB0:=aj hFb;clear ht1 ht2 hFb;go_wp2_with fail;refine(nT c _ X _ hLX (by omega)).mono ?_;rintro r w3 ⟨rfl,hb3⟩;rw[H1.out];obtain⟨k3,z3⟩:=HKC.out w3 hb3;rw[HB0.out]at k3;go_wp2_with fail;refine(nT c _ Y _ (hLY.call hb3) (by omega)).mono ?_;rintro r w4 ⟨rfl,hb4⟩;rw[H2.out];have hb34:=aw hb3 hb4;obtain⟨k4,z4⟩:=HKC.out w4 hb34;rw[HB0.out]at k4;go_wp2;go_meet;rw[HB0.out,H1.out,H2.out];exact HFIN.out w4 false hb34
    ·have H1:=aj ht1;have H2:=aj ht2;have HB0:=aj hFb;clear ht1 ht2 hFb;go_wp2_with fail;refine(nT c _ X _ hLX (by omega)).mono ?_;rintro r w3 ⟨rfl,hb3⟩;rw[H1.out];obtain⟨k3,z3⟩:=HKC.out w3 hb3;rw[HB0.out]at k3;go_wp2_with fail;refine(nT c _ Y _ (hLY.call hb3) (by omega)).mono ?_;rintro r w4 ⟨rfl,hb4⟩;rw[H2.out];have hb34:=aw hb3 hb4;obtain⟨k4,z4⟩:=HKC.out w4 hb34;rw[HB0.out]at k4;go_wp2;go_meet;rw[HB0.out,H1.out,H2.out];exact HFIN.out w4 true hb34
   ·have H1:=aj ht1;have HB0:=aj hFb;clear ht1 hFb;go_wp2_with fail;refine(nT c _ X _ hLX (by omega)).mono ?_;rintro r w3 ⟨rfl,hb3⟩;rw[H1.out];obtain⟨k3,z3⟩:=HKC.out w3 hb3;rw[HB0.out]at k3;go_wp2;go_meet;rw[HB0.out,H1.out];exact HFIN.out w3 true hb3
  ·rw[hFb]at c2;have HB0:=aj hFb;clear hFb;go_wp2;go_meet;rw[HB0.out];exact HFIN.out w2 true (Below.refl _ _)
 case rest =>
 obtain⟨hbc,hMk⟩:=hcut;have hXc:=hX2.but hbc (by omega);have hNc:=hN2'.but hbc (by omega);have hMc:=hM2'.but hbc (by omega);have hg2c:=hMc.lo;have hBc:az c w wc:=(az.j hbw2).trans hbc;clear hN2' hM2' hX2 hE2 hbc hLX hLY;have hwc:w.heap.size<wc.heap.size:=hXc.lt;obtain⟨t0,t1,t2,_⟩:=hXc.1;have hkl:K.nm.length≤4004001:=by have:=jD (L:=L) (i:=i) hL (by omega);omega
 have hkhl:K.hd.length≤4004001:=by have:=jD (L:=L) (i:=i) hL (by omega);omega
 go_wp2_with fail;refine(ku c vn K.nm wc (hE.2.2.1.but hBc) (by omega)).mono ?_;rintro r w3 ⟨v36,rfl,hQ3,hb3⟩;have hN3:=hNc.call hb3;have hM3:=hMc.call hb3;have hX3:=hXc.call hb3;have hB3:=hBc.trans (az.j hb3);have hMk3:=hMk.same (hb3.block c (by omega));have hz3:=hb3.size;obtain⟨g3,cp3,rfl⟩:=hQ3.shape;have hl3:=hQ3.lo;have hcc1:=hN3.news;have hcc2:=wi X;have hc0:(X.map Value.string).length=X.length*1:=by simp
 have hc3:K.nm.length+X.length≤maxLen:=by unfold maxLen;omega
 have hc4:(K.nm.length+X.length)*16≤140737488355328:=by omega
 have hc5:wc.heap.size≤w3.heap.size:=hz3;clear hNc hMc hXc hMk hb3 t0 t1 t2;go_wp2_with (at_builtin;refine wpList_append_own _ rfl _ _ 22 rfl wc.heap.size 9 i0 (.string ⟨#[]⟩) 1 16 Tryz.underlying22 hi hz0 hz1 hz2 rfl (by decide) _ _ _ rfl hQ3.1 ⟨g1,0,none⟩ X.length cp1 (X.map Value.string) rfl hc0 hcc1 hcc2 hc3 hc4 hc5 ?_)
 intro v38 w4 hown' hgrow hnil;have hQ4:a8 w4 wc.heap.size v38 (K.nm++X):=by
  refine⟨?_,fun er=>?_⟩
  ·unfold dq;rw[List.map_append,List.length_append];exact hown'
  ·simp[er]at hnil
 have hg34:∀q,(Value.slice (some ⟨g3,0,none⟩) K.nm.length cp3).ownBlock=some q→w.heap.size≤q:=fun q hq=>by simp[Value.ownBlock]at hq;omega
 have hB4:=hB3.grown hgrow hg34;have hX4:=hX3.grown hgrow (fun e=>by simp[Value.ownBlock]at e;omega);have hM4:=hM3.grown hgrow (fun e=>by simp[Value.ownBlock]at e;omega);have hMk4:=hMk3.same (hgrow.block c (by omega) (fun e=>by simp[Value.ownBlock]at e;omega));have hz4:=hgrow.size;clear hown' hgrow hnil hX3 hM3 hMk3 hQ3 hN3 hcc1 hcc2 hc0 hc3 hc4 hc5 hg34;obtain⟨Z1,hZ1⟩:∃Z,Z=K.nm++X:=⟨_,rfl⟩;rw[←hZ1]at hQ4;have HZ1:=aj hZ1;clear hZ1;obtain⟨g4,cp4,rfl⟩:=hQ4.shape;have hl4:=hQ4.lo;obtain⟨w5,hw5⟩:∃w5,w5=w4.setCell ⟨w.heap.size,0,none⟩ (.slice (some ⟨g4,0,none⟩) Z1.length cp4):=⟨_,rfl⟩;have hz5:w4.heap.size≤w5.heap.size:=by rw[hw5];simp[World.setCell]
 have hz5b:w5.heap.size≤w4.heap.size:=by rw[hw5];simp[World.setCell]
 have hB5:az c w w5:=by rw[hw5];exact hB4.OX (p:=⟨w.heap.size,0,none⟩) _ (Nat.le_refl _)
 have hX5:cX w.heap.size (.slice (some ⟨g4,0,none⟩) Z1.length cp4) vh (.bool K.lp) w5:=by rw[hw5];exact hX4.O0 _
 have hQ5:a8 w5 wc.heap.size (.slice (some ⟨g4,0,none⟩) Z1.length cp4) Z1:=by rw[hw5];exact hQ4.set (p:=⟨w.heap.size,0,none⟩) _ hwc
 have hM5:a8 w5 (w.heap.size+1) (.slice (some ⟨g2,0,none⟩) Y.length cp2) Y:=by rw[hw5];exact hM4.set (p:=⟨w.heap.size,0,none⟩) _ (Nat.lt_succ_self _)
 have hMk5:kc c w w5 (F.bad||(db X||db Y)):=by rw[hw5];exact hMk4.same (Below.heap_setCell w4 ⟨w.heap.size,0,none⟩ _ c (by simp;omega))
 obtain⟨⟨x0,x1,x2,_⟩,xf0,xf1,xf2⟩:=id hX4;go_upto_region 5 with fail;rw[←hw5];clear hw5 x0 x1 x2 xf0 xf1 xf2 hX4 hM4 hMk4 hQ4 hB4;obtain⟨x0,x1,x2,_⟩:=hX5.1;go_wp2_with fail;refine(ku c vh K.hd w5 (hE.2.2.2.but hB5) (by omega)).mono ?_;rintro r w6 ⟨v42,rfl,hR6,hb6⟩;have hM6:=hM5.call hb6;have hX6:=hX5.call hb6;have hQ6:=hQ5.call hb6;have hB6:=hB5.trans (az.j hb6);have hMk6:=hMk5.same (hb6.block c (by omega));have hz6:=hb6.size;obtain⟨g6,cp6,rfl⟩:=hR6.shape;have hl6:=hR6.lo;have hcc1:=hM6.news;have hcc2:=wi Y;have hc0:(Y.map Value.string).length=Y.length*1:=by simp
 have hc3:K.hd.length+Y.length≤maxLen:=by unfold maxLen;omega
 have hc4:(K.hd.length+Y.length)*16≤140737488355328:=by omega
 have hc5:w5.heap.size≤w6.heap.size:=hz6;clear hM5 hX5 hMk5 hb6 x0 x1 x2 hQ5;go_wp2_with (at_builtin;refine wpList_append_own _ rfl _ _ 22 rfl w5.heap.size 9 i0 (.string ⟨#[]⟩) 1 16 Tryz.underlying22 hi hz0 hz1 hz2 rfl (by decide) _ _ _ rfl hR6.1 ⟨g2,0,none⟩ Y.length cp2 (Y.map Value.string) rfl hc0 hcc1 hcc2 hc3 hc4 hc5 ?_)
 intro v44 w7 hown' hgrow hnil;have hR7:a8 w7 w5.heap.size v44 (K.hd++Y):=by
  refine⟨?_,fun er=>?_⟩
  ·unfold dq;rw[List.map_append,List.length_append];exact hown'
  ·simp[er]at hnil
 have hg67:∀q,(Value.slice (some ⟨g6,0,none⟩) K.hd.length cp6).ownBlock=some q→w.heap.size≤q:=fun q hq=>by simp[Value.ownBlock]at hq;omega
 have hB7:=hB6.grown hgrow hg67;have hX7:=hX6.grown hgrow (fun e=>by simp[Value.ownBlock]at e;omega);have hQ7:=hQ6.grown hgrow (fun e=>by simp[Value.ownBlock]at e;omega);have hMk7:=hMk6.same (hgrow.block c (by omega) (fun e=>by simp[Value.ownBlock]at e;omega));have hz7:=hgrow.size;clear hown' hgrow hnil hX6 hM6 hMk6 hR6 hcc1 hcc2 hc0 hc3 hc4 hc5 hg67 hQ6 hB6;obtain⟨Z2,hZ2⟩:∃Z,Z=K.hd++Y:=⟨_,rfl⟩;rw[←hZ2]at hR7;have HZ2:=aj hZ2;clear hZ2;obtain⟨g7,cp7,rfl⟩:=hR7.shape;have hl7:=hR7.lo;obtain⟨w8,hw8⟩:∃w8,w8=w7.setCell ⟨w.heap.size,1,none⟩ (.slice (some ⟨g7,0,none⟩) Z2.length cp7):=⟨_,rfl⟩;have hB8:az c w w8:=by rw[hw8];exact hB7.OX (p:=⟨w.heap.size,1,none⟩) _ (Nat.le_refl _)
 have hX8:cX w.heap.size (.slice (some ⟨g4,0,none⟩) Z1.length cp4) (.slice (some ⟨g7,0,none⟩) Z2.length cp7) (.bool K.lp) w8:=by rw[hw8];exact hX7.Pd _
 have hQ8:a8 w8 wc.heap.size (.slice (some ⟨g4,0,none⟩) Z1.length cp4) Z1:=by rw[hw8];exact hQ7.set (p:=⟨w.heap.size,1,none⟩) _ hwc
 have hR8:a8 w8 w5.heap.size (.slice (some ⟨g7,0,none⟩) Z2.length cp7) Z2:=by rw[hw8];exact hR7.set (p:=⟨w.heap.size,1,none⟩) _ (by show w.heap.size<w5.heap.size;omega)
 have hMk8:kc c w w8 (F.bad||(db X||db Y)):=by rw[hw8];exact hMk7.same (Below.heap_setCell w7 ⟨w.heap.size,1,none⟩ _ c (by simp;omega))
 obtain⟨⟨x0,x1,x2,_⟩,xf0,xf1,xf2⟩:=id hX7;go_upto_region 6 with fail;rw[←hw8];clear hw8 x0 x1 x2 xf0 xf1 xf2 hX7 hMk7 hQ7 hB7 hR7;have hZ1:=HZ1.out;have hZ2:=HZ2.out;subst hZ1;subst hZ2;have hsn:∀i (h:i<(K.nm++X).length),(K.nm++X)[i].size≤maxLen:=fun j hj=>by
  rw[List.getElem_append];split
  ·rename_i h1;exact hE.2.2.1.size j h1
  ·exact hXm _ _
 have hsh:∀i (h:i<(K.hd++Y).length),(K.hd++Y)[i].size≤maxLen:=fun j hj=>by
  rw[List.getElem_append];split
  ·rename_i h1;exact hE.2.2.2.size j h1
  ·exact hYm _ _
 have hE8:bu c w8 a L (.slice (some ⟨g4,0,none⟩) (K.nm++X).length cp4) (.slice (some ⟨g7,0,none⟩) (K.hd++Y).length cp7) (kD (cz K X) Y) (F.plus ⟨[],[],db X||db Y⟩):=by
  rw[pG];exact⟨hE.1.Pa hB8 hMk8,hE.2.1.but hB8,hQ8.OL (c:=c) (by omega) hsn,hR8.OL (c:=c) (by omega) hsh⟩
 have hkn2:(kD (cz K X) Y).nm.length≤kb L i:=by show(K.nm++X).length≤_;rw[List.length_append];omega
 have hkh2:(kD (cz K X) Y).hd.length≤kb L i:=by show(K.hd++Y).length≤_;rw[List.length_append];omega
 have hlp2:(kD (cz K X) Y).lp=K.lp:=rfl;clear hQ8 hR8 hMk8 hsn hsh hkn hkh;generalize (.slice (some ⟨g4,0,none⟩) (K.nm++X).length cp4:Value)=vn2 at hE8 hX8 ⊢;generalize (.slice (some ⟨g7,0,none⟩) (K.hd++Y).length cp7:Value)=vh2 at hE8 hX8 ⊢;obtain⟨f,hf⟩:∃f:Int→Ot,f=fun p=>wk L n 0 false p (kD (cz K X) Y):=⟨_,rfl⟩
 rw[←hf]at HW HBD;have HF:Hid (∀p,wk L n 0 false p (kD (cz K X) Y)=f p):=fun p=>by rw[hf]
 clear hf;generalize kD (cz K X) Y=K2 at hE8 hkn2 hkh2 hlp2 HF;have HLP:=aj hlp2;clear hlp2;generalize F.plus ⟨[],[],db X||db Y⟩=F1 at hE8 HW HBD;clear hX hY hXm hYm hkl hkhl;go_wp2;go_loopw [2,12] (fun v2 v12 wr=>∃(x m:Nat) (b:Bool) (G:Ot),v2=.int .i64 (x:Int)∧v12=.bool b∧i≤(x:Int)∧ey L m (x:Int) e∧bu c wr a L vn2 vh2 K2 G∧cX w.heap.size vn2 vh2 (.bool K.lp) wr∧az c w wr∧Hid (G.plus (iQ L f (b&&v) (ar L m (x:Int)))=F1.plus (iQ L f v (ar L k i)))∧Hid (bZ G (iQ L f (b&&v) (ar L m (x:Int))))) (fun v2 _ _=>e.toNat-(intOf v2).toNat)
 case atStart =>
  obtain⟨q,hq⟩:∃q:Nat,i=(q:Int):=⟨i.toNat,by omega⟩;subst hq;exact⟨q,k,true,F1,rfl,rfl,Int.le_refl _,hch,hE8,hX8,hB8,rfl,HBD.out⟩
 case round =>
  obtain⟨x,m,b,G,rfl,rfl,hix,hm,hEr,hXr,hBr,HP,HB⟩:=hrel;have hxe:=gU m _ hm he0;have hxl:(x:Int)≤(L.length:Int):=by omega
  cases m with
  |zero =>
   have ex:(x:Int)=e:=hm;have HM:Hid ((decide ((x:Int)<(L.length:Int))&&!ae (aa L x) [41])=false):=tb (by rw[ex];exact hend);have HR:=aj (by rw[HW.out,←HP.out];show aY c wr (G.plus Ot.none);rw[Ot.OO];exact hEr.1:aY c wr (F.plus (wk L (n+1) 1 v i K)));clear HP HB HW HBD ex hm hxe;have hx0:(0:Int)≤(x:Int):=by omega
   have hx1:(x:Int)≤(L.length:Int):=hxl;go_wp2_with fail;refine(iA a cap L (x:Int) _ hEr.2.1.arg (by omega) hx0 hx1).mono ?_;rintro r w9 ⟨rfl,hb9⟩;rw[HM.out];go_wp2;go_end0;exact⟨rfl,HR.out.call hb9,hBr.trans (az.j hb9)⟩
  |succ m =>
   obtain⟨hd,hm2⟩:=hm;have hdl:=fR hd;have hde:=iS hd;have hq:=gU m _ hm2 he0;have HM:Hid ((decide ((x:Int)<(L.length:Int))&&!ae (aa L x) [41])=true):=we hd;have hfar:=uQ (L:=L) (by omega:0≤i) hix;have hk1:=vy (L:=L) hix;have HPx:Hid (((G.plus ⟨[],[],ae (aa L ((x:Int)+1)) [118,97,114,115]&&!(b&&v)⟩).plus (f (x:Int))).plus (iQ L f false (ar L m (ag L x)))=F1.plus (iQ L f v (ar L k i))):=by
    show _=_;rw[←HP.out,←Ot.OM,←Ot.OM];rfl
   have hb2:=HB.out;have hb3:bZ G ((Ot.mk [] [] (ae (aa L ((x:Int)+1)) [118,97,114,115]&&!(b&&v))).add ((f (x:Int)).add (iQ L f false (ar L m (ag L x))))):=hb2;have HB1:Hid (bZ (G.plus ⟨[],[],ae (aa L ((x:Int)+1)) [118,97,114,115]&&!(b&&v)⟩) (f (x:Int))):=hb3.right.left;have HB2:Hid (bZ ((G.plus ⟨[],[],ae (aa L ((x:Int)+1)) [118,97,114,115]&&!(b&&v)⟩).plus (f (x:Int))) (iQ L f false (ar L m (ag L x)))):=hb3.right.right;clear HP HB hb2 hb3;obtain⟨z,hz⟩:∃z:Nat,ag L (x:Int)=(z:Int):=⟨(ag L x).toNat,by omega⟩;have HZ:=aj hz;rw[hz]at HPx HB2 hde;rw[←hde]at hm2 hq hdl;clear hz hde;have hIx:=fun (Gx:Ot) (W:World) (hEx:bu c W a L vn2 vh2 K2 Gx) (hBx:bZ Gx (f (x:Int)))=>hIt (x:Int) K2 Gx vn2 vh2 W hEx (Or.inr hd) (by omega) (by omega) (by omega) (by rw[HF.out];exact hBx)
   have HIx:Hid (∀(Gx:Ot) (W:World),bu c W a L vn2 vh2 K2 Gx→bZ Gx (f (x:Int))→ah 90 #[.pointer (some ⟨c,0,none⟩),.slice a L.length cap,.int .i64 x,.agg #[vn2,vh2,.bool K.lp]] W fun e w'=>e=.returned (.tuple #[])∧aY c w' (Gx.plus (f (x:Int)))∧az c W w'):=fun Gx W h1 h2=>by
    have h3:=hIx Gx W h1 h2;rw[HF.out,HLP.out]at h3;exact h3
   clear hIx;obtain⟨sb,off,rfl,hc1,_,hsbl,_⟩:=hEr.2.1.at (x+1) (by omega);have hcst:((x+1:Nat):Int)=(x:Int)+1:=by omega
   rw[hcst]at hc1;clear hcst;have hx0:(0:Int)≤(x:Int):=by omega
   go_wp2_with fail;refine(iA _ cap L (x:Int) _ hEr.2.1.arg (by omega) hx0 hxl).mono ?_;rintro r w9 ⟨rfl,hb9⟩;rw[HM.out];have hE9:=hEr.call hb9;have hX9:=hXr.call hb9;have hB9:=hBr.trans (az.j hb9);have hc9:=(hb9.cell (p:=⟨sb,off+(x+1),none⟩) hsbl).trans hc1;obtain⟨u0,u1,u2,_⟩:=hX9.1;clear hEr hXr hBr hb9 hc1 HM;cases hv:ae (aa L ((x:Int)+1)) [118,97,114,115]
   ·have HG:=aj (by rw[hv];rfl:G.plus ⟨[],[],ae (aa L ((x:Int)+1)) [118,97,114,115]&&!(b&&v)⟩=G.plus ⟨[],[],false⟩);have bvr:((aa L ((x:Int)+1)).toList==[118,97,114,115])=false:=hv;rw[HG.out]at HPx HB1 HB2;clear HG hv;generalize aa L ((x:Int)+1)=hdS at hc9 bvr;have HG0:Hid (G.plus ⟨[],[],false⟩=G):=Ot.OO G;rw[HG0.out]at HPx HB1 HB2;clear HG0;have HCx:=HIx.out G w9 hE9 HB1.out;have HC:=aj HCx;clear HCx HIx;generalize f (x:Int)=o1 at HC HPx HB2;go_wp2_with fail;refine HC.out.mono ?_;rintro r w10 ⟨rfl,hF10,hb10⟩;have hE10:=hE9.but hb10 hF10;have hX10:=hX9.but hb10 (by omega);have hB10:=hB9.trans hb10;clear HC;go_wp2_with fail;refine(dk _ cap L (x:Int) _ hE10.2.1.arg (by omega) ⟨by omega,by omega⟩).mono ?_;rintro r w11 ⟨rfl,hb11⟩;have hE11:=hE10.call hb11;have hX11:=hX10.call hb11;have hB11:=hB10.trans (az.j hb11);rw[HZ.out];go_wp2;go_roundw
    case rel=>exact⟨z,m,false,_,rfl,rfl,by omega,hm2,hE11,hX11,hB11,HPx.out,HB2.out⟩
    case measure=>simp[intOf];omega
   ·cases b
    ·have HG:=aj (by rw[hv];rfl:G.plus ⟨[],[],ae (aa L ((x:Int)+1)) [118,97,114,115]&&!(false&&v)⟩=G.plus ⟨[],[],true⟩);have bvr:((aa L ((x:Int)+1)).toList==[118,97,114,115])=true:=hv;rw[HG.out]at HPx HB1 HB2;clear HG hv;generalize aa L ((x:Int)+1)=hdS at hc9 bvr;obtain⟨vf,vs,q0,q1,q2,_,_,fq0,fq1,fq2,_⟩:=id hE9.1;have hFs:aY c (w9.setCell ⟨c,2,none⟩ (.bool true)) (G.plus ⟨[],[],true⟩):=by rw[pG,Bool.or_true];exact hE9.1.O1 true
     have hbs:az c w9 (w9.setCell ⟨c,2,none⟩ (.bool true)):=(az.refl c w9).setCur 2 _;have hEs:=hE9.but hbs hFs;have hXs:=hX9.but hbs (by omega);have hBs:=hB9.trans hbs;have HCx:=HIx.out _ _ hEs HB1.out;have HC:=aj HCx;clear HCx HIx;generalize f (x:Int)=o1 at HC HPx HB2;obtain⟨y0,y1,y2,_⟩:=hXs.1;go_wp2_with fail;refine HC.out.mono ?_;rintro r w10 ⟨rfl,hF10,hb10⟩;have hE10:=hEs.but hb10 hF10;have hX10:=hXs.but hb10 (by omega);have hB10:=hBs.trans hb10;clear HC;go_wp2_with fail;refine(dk _ cap L (x:Int) _ hE10.2.1.arg (by omega) ⟨by omega,by omega⟩).mono ?_;rintro r w11 ⟨rfl,hb11⟩;have hE11:=hE10.call hb11;have hX11:=hX10.call hb11;have hB11:=hB10.trans (az.j hb11);rw[HZ.out];go_wp2;go_roundw
     case rel=>exact⟨z,m,false,_,rfl,rfl,by omega,hm2,hE11,hX11,hB11,HPx.out,HB2.out⟩
     case measure=>simp[intOf];omega
    ·cases v
     ·have HG:=aj (by rw[hv];rfl:G.plus ⟨[],[],ae (aa L ((x:Int)+1)) [118,97,114,115]&&!(true&&false)⟩=G.plus ⟨[],[],true⟩);have bvr:((aa L ((x:Int)+1)).toList==[118,97,114,115])=true:=hv;rw[HG.out]at HPx HB1 HB2;clear HG hv;generalize aa L ((x:Int)+1)=hdS at hc9 bvr;obtain⟨vf,vs,q0,q1,q2,_,_,fq0,fq1,fq2,_⟩:=id hE9.1;have hFs:aY c (w9.setCell ⟨c,2,none⟩ (.bool true)) (G.plus ⟨[],[],true⟩):=by rw[pG,Bool.or_true];exact hE9.1.O1 true
      have hbs:az c w9 (w9.setCell ⟨c,2,none⟩ (.bool true)):=(az.refl c w9).setCur 2 _;have hEs:=hE9.but hbs hFs;have hXs:=hX9.but hbs (by omega);have hBs:=hB9.trans hbs;have HCx:=HIx.out _ _ hEs HB1.out;have HC:=aj HCx;clear HCx HIx;generalize f (x:Int)=o1 at HC HPx HB2;obtain⟨y0,y1,y2,_⟩:=hXs.1;go_wp2_with fail;refine HC.out.mono ?_;rintro r w10 ⟨rfl,hF10,hb10⟩;have hE10:=hEs.but hb10 hF10;have hX10:=hXs.but hb10 (by omega);have hB10:=hBs.trans hb10;clear HC;go_wp2_with fail;refine(dk _ cap L (x:Int) _ hE10.2.1.arg (by omega) ⟨by omega,by omega⟩).mono ?_;rintro r w11 ⟨rfl,hb11⟩;have hE11:=hE10.call hb11;have hX11:=hX10.call hb11;have hB11:=hB10.trans (az.j hb11);rw[HZ.out];go_wp2;go_roundw
      case rel=>exact⟨z,m,false,_,rfl,rfl,by omega,hm2,hE11,hX11,hB11,HPx.out,HB2.out⟩
      case measure=>simp[intOf];omega
     ·have HG:=aj (by rw[hv];rfl:G.plus ⟨[],[],ae (aa L ((x:Int)+1)) [118,97,114,115]&&!(true&&true)⟩=G.plus ⟨[],[],false⟩);have bvr:((aa L ((x:Int)+1)).toList==[118,97,114,115])=true:=hv;rw[HG.out]at HPx HB1 HB2;clear HG hv;generalize aa L ((x:Int)+1)=hdS at hc9 bvr;have HG0:Hid (G.plus ⟨[],[],false⟩=G):=Ot.OO G;rw[HG0.out]at HPx HB1 HB2;clear HG0;have HCx:=HIx.out G w9 hE9 HB1.out;have HC:=aj HCx;clear HCx HIx;generalize f (x:Int)=o1 at HC HPx HB2;go_wp2_with fail;refine HC.out.mono ?_;rintro r w10 ⟨rfl,hF10,hb10⟩;have hE10:=hE9.but hb10 hF10;have hX10:=hX9.but hb10 (by omega);have hB10:=hB9.trans hb10;clear HC;go_wp2_with fail;refine(dk _ cap L (x:Int) _ hE10.2.1.arg (by omega) ⟨by omega,by omega⟩).mono ?_;rintro r w11 ⟨rfl,hb11⟩;have hE11:=hE10.call hb11;have hX11:=hX10.call hb11;have hB11:=hB10.trans (az.j hb11);rw[HZ.out];go_wp2;go_roundw
      case rel=>exact⟨z,m,false,_,rfl,rfl,by omega,hm2,hE11,hX11,hB11,HPx.out,HB2.out⟩
      case measure=>simp[intOf];omega
end Go.Proofs.YtdojfommmpnbgaaGreatDoor
