import Derived.Test.YtdgihicpjonjgaaGreatDoorZPutL
import Derived.Test.YtdgihicpjonjgaaGreatDoorZBlks
import Derived.Test.YtdgihicpjonjgaaGreatDoorZPlain
import Derived.Laws.AppendOwnNone
namespace Go.Proofs.YtdgihicpjonjgaaGreatDoor
open Go.RowKit
def Lst (c:Nat) (w:World) (v:Value) (X:List ByteArray):Prop :=
 (v=.slice none 0 0∧X=[])∨∃ sb off cap,v=.slice (some ⟨sb,off,none⟩) X.length cap∧X.length≤cap∧cap≤maxLen∧sb < w.heap.size∧sb≠c∧∀ i (h:i < X.length),w.cell? ⟨sb,off+i,none⟩=some (.string X[i])∧X[i].size≤maxLen
theorem Lst.call {c:Nat} {w w':World} {v:Value} {X:List ByteArray} (h:Lst c w v X) (hb:Below w.heap.size w w'):Lst c w' v X:=by
 rcases h with h | ⟨sb,off,cap,hv,h1,h2,h3,h4,h5⟩
 ·exact Or.inl h
 ·exact Or.inr ⟨sb,off,cap,hv,h1,h2,Nat.lt_of_lt_of_le h3 hb.size,h4,fun i hi=>⟨(hb.cell (p:=⟨sb,off+i,none⟩) h3).trans (h5 i hi).1,(h5 i hi).2⟩⟩
theorem Lst.but {c:Nat} {w w':World} {v:Value} {X:List ByteArray} (h:Lst c w v X) (hb:But c w w'):Lst c w' v X:=by
 rcases h with h | ⟨sb,off,cap,hv,h1,h2,h3,h4,h5⟩
 ·exact Or.inl h
 ·exact Or.inr ⟨sb,off,cap,hv,h1,h2,Nat.lt_of_lt_of_le h3 hb.2.2.2.1,h4,fun i hi=>⟨(hb.cell sb (off+i) h3 h4).trans (h5 i hi).1,(h5 i hi).2⟩⟩
theorem Lst.size {c:Nat} {w:World} {v:Value} {X:List ByteArray} (h:Lst c w v X) (i:Nat) (hi:i < X.length):X[i].size≤maxLen:=by
 rcases h with ⟨_,rfl⟩ | ⟨_,_,_,_,_,_,_,_,h5⟩
 ·exact absurd hi (Nat.not_lt_zero _)
 ·exact (h5 i hi).2
theorem OwnN.lst {c B:Nat} {w:World} {v:Value} {X:List ByteArray} (h:OwnN w B v X) (hc:c < B) (hs:∀ i (h:i < X.length),X[i].size≤maxLen):Lst c w v X:=by
 rcases h.1.2 with ⟨hv,_⟩ | ⟨g,cap,cur,rfl,hB,hg,hcap,hmax,hsz,htake⟩
 ·exact absurd hv h.2
 ·refine Or.inr ⟨g,0,cap,rfl,hcap,hmax,(Array.getElem?_eq_some_iff.1 hg).1,by omega,fun i hi=>⟨?_,hs i hi⟩⟩
  have hc:=h.cells i (.string X[i]) (by simp [hi])
  rw [Nat.zero_add]
  have hplain:(⟨g,0,none⟩:Addr).add i=⟨g,i,none⟩:=by
   unfold Addr.add
   split
   ·simp_all
   ·simp
  rw [hplain] at hc
  exact hc
theorem OwnN.lo {w:World} {B g n cap:Nat} {X:List ByteArray} (h:OwnN w B (.slice (some ⟨g,0,none⟩) n cap) X):B≤g∧g < w.heap.size:=by
 rcases h.1.2 with ⟨hv,_⟩ | ⟨g',cap',cur,hv,hB,hg,_⟩
 ·cases hv
 ·injection hv with ha _ _
  injection ha with ha
  injection ha with e1 _ _
  subst e1
  exact ⟨hB,(Array.getElem?_eq_some_iff.1 hg).1⟩
theorem OwnN.grown {w w':World} {B:Nat} {v:Value} {X:List ByteArray} {row:Option Nat} (h:OwnN w B v X) (hg:w.grownBy w' row) (hne:v.ownBlock≠row):OwnN w' B v X:=⟨World.ownsRow.kept h.1 hg (Or.inr hne),h.2⟩
theorem OwnN.alloc {w:World} {B:Nat} {v:Value} {X:List ByteArray} (h:OwnN w B v X) (o:Obj):OwnN (w.alloc o) B v X:=⟨World.ownsRow.alloc h.1 o,h.2⟩
set_option maxHeartbeats 2000000 in
theorem l1Texts_any (c:Nat) (v:Value) (X:List ByteArray) (w:World) (h:Lst c w v X) (hX:X.length≤8000000) :
  Calls Tryz.prog 60 #[v] w fun e w'=>∃ v',e=.returned v'∧OwnN w' w.heap.size v' X∧Below w.heap.size w w':=by
 obtain ⟨i0,hi,hz0,hz1,hz2⟩:=info_parts Tryz.infoS
 have hO:=ownN_new w w.heap.size (Nat.le_refl _)
 have hB0:=balloc (Below.refl w.heap.size w) (.cells #[] 9)
 rcases h with ⟨rfl,rfl⟩ | ⟨sb,off,cap,rfl,h1,h2,h3,h4,h5⟩
 ·go_enter Tryz.func60,Tryz.ntmps60
  go_wp2_with (at_builtin;refine wpList_append_own_none rfl _ _ 22 rfl w.heap.size 9 i0 1 Tryz.underlying22 hi _ _ _ rfl hO.1 rfl ?_)
  go_wp2
  go_ret
  exact ⟨_,rfl,hO,hB0⟩
 ·have hcc1:∀ j u,(X.map Value.string)[j]?=some u→(w.alloc (.cells #[] 9)).cell? ((⟨sb,off,none⟩:Addr).add j)=some u:=fun j u hj=>by
   have hjl:j < X.length:=by
    have:=(List.getElem?_eq_some_iff.1 hj).1
    simpa using this
   have hu:u=.string X[j]:=by
    simp [hjl] at hj
    exact hj.symm
   have hplain:(⟨sb,off,none⟩:Addr).add j=⟨sb,off+j,none⟩:=by unfold Addr.add;split <;> simp_all
   rw [hplain,hu]
   exact (hB0.cell (p:=⟨sb,off+j,none⟩) h3).trans (h5 j hjl).1
  have hcc2:∀ u∈X.map Value.string,u.oneCell'=true:=fun u hu=>by
   obtain ⟨z,_,rfl⟩:=List.mem_map.1 hu
   rfl
  have hc0:(X.map Value.string).length=X.length * 1:=by simp
  have hc3:([]:List ByteArray).length+X.length≤maxLen:=by unfold maxLen;simp;omega
  have hc4:(([]:List ByteArray).length+X.length) * 16≤140737488355328:=by simp;omega
  have hc5:=hB0.size
  go_enter Tryz.func60,Tryz.ntmps60
  go_wp2_with (at_builtin;refine wpList_append_own _ rfl _ _ 22 rfl w.heap.size 9 i0 (.string ⟨#[]⟩) 1 16 Tryz.underlying22 hi hz0 hz1 hz2 rfl (by decide) _ _ _ rfl hO.1 ⟨sb,off,none⟩ X.length cap (X.map Value.string) rfl hc0 hcc1 hcc2 hc3 hc4 hc5 ?_)
  intro v' w3 hown' hgrow hnil
  have hR:OwnN w3 w.heap.size v' X:=by
   refine ⟨?_,fun er=>?_⟩
   ·unfold OwnT
    simpa using hown'
   ·simp [er] at hnil
  have hB3:Below w.heap.size w w3:=hB0.grown hgrow hc5 (fun q hq=>(World.ownsRow.lt hO.1 q hq).1)
  clear hown' hgrow hnil
  go_wp2
  go_ret
  exact ⟨_,rfl,hR,hB3⟩
theorem Lst.drop {c sb off cap k:Nat} {w:World} {X:List ByteArray} (h:Lst c w (.slice (some ⟨sb,off,none⟩) X.length cap) X) (hk:k≤X.length):Lst c w (.slice (some ⟨sb,off+k,none⟩) (X.length - k) (cap - k)) (X.drop k):=by
 rcases h with ⟨h,_⟩ | ⟨sb',off',cap',hv,h1,h2,h3,h4,h5⟩
 ·cases h
 ·injection hv with ha _ hc
  injection ha with ha
  injection ha with e1 e2 _
  subst e1 e2 hc
  refine Or.inr ⟨sb,off+k,cap - k,by rw [List.length_drop],by rw [List.length_drop];omega,by omega,h3,h4,fun i hi=>?_⟩
  have hi':k+i < X.length:=by rw [List.length_drop] at hi;omega
  rw [List.getElem_drop,show off+k+i=off+(k+i) by omega]
  exact h5 (k+i) hi'
theorem Lst.take {c sb off cap k:Nat} {w:World} {X:List ByteArray} (h:Lst c w (.slice (some ⟨sb,off,none⟩) X.length cap) X) (hk:k≤X.length):Lst c w (.slice (some ⟨sb,off,none⟩) k cap) (X.take k):=by
 rcases h with ⟨h,_⟩ | ⟨sb',off',cap',hv,h1,h2,h3,h4,h5⟩
 ·cases h
 ·injection hv with ha _ hc
  injection ha with ha
  injection ha with e1 e2 _
  subst e1 e2 hc
  refine Or.inr ⟨sb,off,cap,by rw [List.length_take];congr 1;omega,by rw [List.length_take];omega,h2,h3,h4,fun i hi=>?_⟩
  have hi':i < X.length:=by rw [List.length_take] at hi;omega
  rw [List.getElem_take]
  exact h5 i hi'
set_option maxHeartbeats 4000000 in
theorem l5Put_own (c:Nat) (v:Value) (X:List ByteArray) (s:ByteArray) (w:World) (h:Lst c w v X) (hX:X.length≤3000000) (hs:s.size≤maxLen) (hcw:c < w.heap.size) :
  Calls Tryz.prog 129 #[v,.string s] w fun e w'=>∃ v',e=.returned v'∧(v'=v∧putL X s=X∨OwnN w' w.heap.size v' (putL X s))∧Lst c w' v' (putL X s)∧Below w.heap.size w w':=by
 obtain ⟨i0,hi,hz0,hz1,hz2⟩:=info_parts Tryz.infoS
 have hsz:∀ i (h:i < (putL X s).length),(putL X s)[i].size≤maxLen:=fun i hi'=>by
  have hm:(putL X s)[i]∈putL X s:=List.getElem_mem hi'
  have hall:∀ z∈putL X s,z.size≤maxLen:=fun z hz=>by
   have hz':z∈X∨z=s:=by
    unfold putL at hz
    split at hz
    ·exact Or.inl hz
    ·rcases List.mem_append.1 hz with hz | hz
     ·rcases List.mem_append.1 hz with hz | hz
      ·exact Or.inl (List.mem_of_mem_take hz)
      ·exact Or.inr (by simpa using hz)
     ·exact Or.inl (List.mem_of_mem_drop hz)
   rcases hz' with hz' | rfl
   ·obtain ⟨j,hj,rfl⟩:=List.getElem_of_mem hz'
    exact h.size j hj
   ·exact hs
  exact hall _ hm
 rcases h with ⟨rfl,rfl⟩ | hS
 ·obtain ⟨DD,hDD⟩:∃ D:List ByteArray,D=[]:=⟨_,rfl⟩
  obtain ⟨TT,hTT⟩:∃ T:List ByteArray,T=[]:=⟨_,rfl⟩
  have hDl:DD.length≤3000000:=by rw [hDD];first | omega | (simp;done) | (simp;omega)
  have hTl:TT.length≤3000000:=by rw [hTT];first | omega | (simp;done) | (simp;omega)
  have HN:Hid (putL [] s=TT++[s]++DD):=(by rw [hDD,hTT];simp [putL,posN]:putL [] s=TT++[s]++DD)
  have hd:Lst c w (.slice none 0 0) DD:=Or.inl ⟨rfl,hDD⟩
  have ht:Lst c w (.slice none 0 0) TT:=Or.inl ⟨rfl,hTT⟩
  have hB:Below w.heap.size w w:=Below.refl _ _
  clear hDD hTT
  go_enter Tryz.func129,Tryz.ntmps129
  go_wp2
  refine wp_loop_rounds 1 ?_
  rw [rounds_succ]
  go_wp2_with fail
  refine (l1Texts_any c _ DD _ hd (by omega)).mono ?_
  rintro e w1 ⟨v1,rfl,hr1,hb1⟩
  have hB1:=bstep hB hb1
  have ht1:=ht.call hb1
  obtain ⟨g1,cp1,rfl⟩:=hr1.shape
  go_wp2_with fail
  refine (l1Texts_any c _ TT _ ht1 (by omega)).mono ?_
  rintro e w2 ⟨v2,rfl,hr2,hb2⟩
  have hB2:=bstep hB1 hb2
  have hr1':=hr1.call hb2
  have hs2:=hB2.size
  have hs1:=hB1.size
  have hO2:OwnN w2 w.heap.size v2 TT:=⟨ownT_mono hr2.1 hs1,hr2.2⟩
  obtain ⟨g2,cp2,rfl⟩:=hO2.shape
  have hcc1:∀ j u,[Value.string s][j]?=some u→(w2.alloc (.cells #[.string s] 9)).cell? ((⟨w2.heap.size,0,none⟩:Addr).add j)=some u:=fun j u hj=>by
   match j,hj with
   | 0,hj=>simp at hj;subst hj;simp [Addr.add]
  have hcc2:∀ u∈[Value.string s],u.oneCell'=true:=fun u hu=>by simp at hu;subst hu;rfl
  have hc3:TT.length+1≤maxLen:=by unfold maxLen;omega
  have hc4:(TT.length+1) * 16≤140737488355328:=by omega
  have hc5:w.heap.size≤(w2.alloc (.cells #[.string s] 9)).heap.size:=by simp;omega
  go_wp2_with (at_builtin;refine wpList_append_own _ rfl _ _ 22 rfl w.heap.size 9 i0 (.string ⟨#[]⟩) 1 16 Tryz.underlying22 hi hz0 hz1 hz2 rfl (by decide) _ _ _ rfl (World.ownsRow.alloc hO2.1 _) ⟨w2.heap.size,0,none⟩ 1 1 [.string s] rfl rfl hcc1 hcc2 hc3 hc4 hc5 ?_)
  intro v3 w3 hown3 hgrow3 hnil3
  have hO3:OwnN w3 w.heap.size v3 (TT++[s]):=by
   refine ⟨?_,fun er=>?_⟩
   ·unfold OwnT
    rw [List.map_append,List.length_append]
    exact hown3
   ·exact hnil3 er
  have hB3:Below w.heap.size w w3:=(balloc hB2 _).grown hgrow3 hc5 (fun q hq=>(World.ownsRow.lt hO2.1 q hq).1)
  have hlo1:=hr1.lo
  have hlo2:=hr2.lo
  have hr3:=(hr1'.alloc (.cells #[.string s] 9)).grown hgrow3 (by simp [Value.ownBlock];omega)
  obtain ⟨g3,cp3,rfl⟩:=hO3.shape
  clear hown3 hgrow3 hnil3 hcc1 hcc2 hc3 hc4 hc5
  have hcc1:=hr3.cells
  have hcc2:∀ u∈DD.map Value.string,u.oneCell'=true:=fun u hu=>by
   obtain ⟨z,_,rfl⟩:=List.mem_map.1 hu
   rfl
  have hc0:(DD.map Value.string).length=DD.length * 1:=by simp
  have hc3:(TT++[s]).length+DD.length≤maxLen:=by unfold maxLen;simp;omega
  have hc4:((TT++[s]).length+DD.length) * 16≤140737488355328:=by simp;omega
  have hc5:=hB3.size
  generalize hMM:TT++[s]=MM at hO3 HN hc3 hc4 ⊢
  clear hMM
  go_wp2_with (at_builtin;refine wpList_append_own _ rfl _ _ 22 rfl w.heap.size 9 i0 (.string ⟨#[]⟩) 1 16 Tryz.underlying22 hi hz0 hz1 hz2 rfl (by decide) _ _ _ rfl hO3.1 ⟨g1,0,none⟩ DD.length cp1 (DD.map Value.string) rfl hc0 hcc1 hcc2 hc3 hc4 hc5 ?_)
  intro v4 w4 hown4 hgrow4 hnil4
  have hO4:OwnN w4 w.heap.size v4 (MM++DD):=by
   refine ⟨?_,fun er=>?_⟩
   ·unfold OwnT
    rw [List.map_append,List.length_append]
    exact hown4
   ·simp [er] at hnil4
  have hB4:Below w.heap.size w w4:=hB3.grown hgrow4 hc5 (fun q hq=>(World.ownsRow.lt hO3.1 q hq).1)
  clear hown4 hgrow4 hnil4 hcc1 hcc2
  rw [← HN.out] at hO4
  obtain ⟨g4,cp4,rfl⟩:=hO4.shape
  have hF:=hO4.lst hcw hsz
  go_wp2
  go_ret
  exact ⟨_,rfl,Or.inr hO4,hF,hB4⟩
 ·obtain ⟨sb,off,cap,rfl,h1,h2,h3,h4,h5⟩:=id hS
  have hL:Lst c w (.slice (some ⟨sb,off,none⟩) X.length cap) X:=Or.inr hS
  clear hS
  go_enter Tryz.func129,Tryz.ntmps129
  go_wp2
  go_loopw [5] (fun v5 wr=>∃ k:Nat,v5=.int .i64 (k:Int)∧k≤X.length∧Hid (∀ j (h:j < X.length),j < k→ltB X[j] s=true)∧Below w.heap.size w wr) (fun v5 _=>X.length - (intOf v5).toNat)
  case atStart=>exact ⟨0,rfl,Nat.zero_le _,fun j _ hj=>absurd hj (Nat.not_lt_zero _),Below.refl _ _⟩
  case round =>
   obtain ⟨k,rfl,hk,HA,hB⟩:=hrel
   have hL':=hL.call hB
   by_cases hlt:k < X.length
   ·have hc:=(hB.cell (p:=⟨sb,off+k,none⟩) h3).trans (h5 k hlt).1
    cases hq:ltB X[k] s
    ·have HP:Hid (posN X s=k):=pos_eq s X k hk HA.out (fun _=>hq)
     have hbl:Op.bytesLess X[k].toList s.toList=false:=hq
     cases he:(X[k].toList == s.toList)
     ·have hN:=putL_new HP.out (fun _=>he)
      have hd:=hL'.drop hk
      have ht:=hL'.take hk
      obtain ⟨DD,hDD⟩:∃ D:List ByteArray,D=X.drop k:=⟨_,rfl⟩
      obtain ⟨TT,hTT⟩:∃ T:List ByteArray,T=X.take k:=⟨_,rfl⟩
      have hDl:DD.length≤3000000:=by rw [hDD];first | omega | (simp;done) | (simp;omega)
      have hTl:TT.length≤3000000:=by rw [hTT];first | omega | (simp;done) | (simp;omega)
      rw [← hDD] at hd hN
      rw [← hTT] at ht hN
      have HN:Hid (putL X s=TT++[s]++DD):=hN
      clear HA HP hDD hTT hN
      generalize X[k]=t at hc hq hbl he
      unfold maxLen at h2
      go_wp2_with fail
      refine (l1Texts_any c _ DD _ hd (by omega)).mono ?_
      rintro e w1 ⟨v1,rfl,hr1,hb1⟩
      have hB1:=bstep hB hb1
      have ht1:=ht.call hb1
      obtain ⟨g1,cp1,rfl⟩:=hr1.shape
      go_wp2_with fail
      refine (l1Texts_any c _ TT _ ht1 (by omega)).mono ?_
      rintro e w2 ⟨v2,rfl,hr2,hb2⟩
      have hB2:=bstep hB1 hb2
      have hr1':=hr1.call hb2
      have hs2:=hB2.size
      have hs1:=hB1.size
      have hO2:OwnN w2 w.heap.size v2 TT:=⟨ownT_mono hr2.1 hs1,hr2.2⟩
      obtain ⟨g2,cp2,rfl⟩:=hO2.shape
      have hcc1:∀ j u,[Value.string s][j]?=some u→(w2.alloc (.cells #[.string s] 9)).cell? ((⟨w2.heap.size,0,none⟩:Addr).add j)=some u:=fun j u hj=>by
       match j,hj with
       | 0,hj=>simp at hj;subst hj;simp [Addr.add]
      have hcc2:∀ u∈[Value.string s],u.oneCell'=true:=fun u hu=>by simp at hu;subst hu;rfl
      have hc3:TT.length+1≤maxLen:=by unfold maxLen;omega
      have hc4:(TT.length+1) * 16≤140737488355328:=by omega
      have hc5:w.heap.size≤(w2.alloc (.cells #[.string s] 9)).heap.size:=by simp;omega
      go_wp2_with (at_builtin;refine wpList_append_own _ rfl _ _ 22 rfl w.heap.size 9 i0 (.string ⟨#[]⟩) 1 16 Tryz.underlying22 hi hz0 hz1 hz2 rfl (by decide) _ _ _ rfl (World.ownsRow.alloc hO2.1 _) ⟨w2.heap.size,0,none⟩ 1 1 [.string s] rfl rfl hcc1 hcc2 hc3 hc4 hc5 ?_)
      intro v3 w3 hown3 hgrow3 hnil3
      have hO3:OwnN w3 w.heap.size v3 (TT++[s]):=by
       refine ⟨?_,fun er=>?_⟩
       ·unfold OwnT
        rw [List.map_append,List.length_append]
        exact hown3
       ·exact hnil3 er
      have hB3:Below w.heap.size w w3:=(balloc hB2 _).grown hgrow3 hc5 (fun q hq=>(World.ownsRow.lt hO2.1 q hq).1)
      have hlo1:=hr1.lo
      have hlo2:=hr2.lo
      have hr3:=(hr1'.alloc (.cells #[.string s] 9)).grown hgrow3 (by simp [Value.ownBlock];omega)
      obtain ⟨g3,cp3,rfl⟩:=hO3.shape
      clear hown3 hgrow3 hnil3 hcc1 hcc2 hc3 hc4 hc5
      have hcc1:=hr3.cells
      have hcc2:∀ u∈DD.map Value.string,u.oneCell'=true:=fun u hu=>by
       obtain ⟨z,_,rfl⟩:=List.mem_map.1 hu
       rfl
      have hc0:(DD.map Value.string).length=DD.length * 1:=by simp
      have hc3:(TT++[s]).length+DD.length≤maxLen:=by unfold maxLen;simp;omega
      have hc4:((TT++[s]).length+DD.length) * 16≤140737488355328:=by simp;omega
      have hc5:=hB3.size
      generalize hMM:TT++[s]=MM at hO3 HN hc3 hc4 ⊢
      clear hMM
      go_wp2_with (at_builtin;refine wpList_append_own _ rfl _ _ 22 rfl w.heap.size 9 i0 (.string ⟨#[]⟩) 1 16 Tryz.underlying22 hi hz0 hz1 hz2 rfl (by decide) _ _ _ rfl hO3.1 ⟨g1,0,none⟩ DD.length cp1 (DD.map Value.string) rfl hc0 hcc1 hcc2 hc3 hc4 hc5 ?_)
      intro v4 w4 hown4 hgrow4 hnil4
      have hO4:OwnN w4 w.heap.size v4 (MM++DD):=by
       refine ⟨?_,fun er=>?_⟩
       ·unfold OwnT
        rw [List.map_append,List.length_append]
        exact hown4
       ·simp [er] at hnil4
      have hB4:Below w.heap.size w w4:=hB3.grown hgrow4 hc5 (fun q hq=>(World.ownsRow.lt hO3.1 q hq).1)
      clear hown4 hgrow4 hnil4 hcc1 hcc2
      rw [← HN.out] at hO4
      obtain ⟨g4,cp4,rfl⟩:=hO4.shape
      have hF:=hO4.lst hcw hsz
      go_wp2
      go_ret
      exact ⟨_,rfl,Or.inr hO4,hF,hB4⟩
     ·have HS:Hid (putL X s=X):=putL_same HP.out hlt he
      clear HA HP
      generalize X[k]=t at hc hq hbl he
      go_wp2
      go_ret
      exact ⟨_,rfl,Or.inl ⟨rfl,HS.out⟩,by rw [HS.out];exact hL',hB⟩
    ·have HN:Hid (∀ j (h:j < X.length),j < k+1→ltB X[j] s=true):=fun j hj hlt'=>by
      by_cases e:j=k
      ·subst e;exact hq
      ·exact HA.out j hj (by omega)
     have hbl:Op.bytesLess X[k].toList s.toList=true:=hq
     clear hq HA
     generalize X[k]=t at hc hbl
     go_wp2
     go_roundw
     case rel=>exact ⟨k+1,by go_num,by omega,HN.out,hB⟩
     case measure=>simp [intOf];omega
   ·have e0:k=X.length:=by omega
    subst e0
    have HP:Hid (posN X s=X.length):=pos_eq s X X.length hk HA.out (fun h=>absurd h hlt)
    have hN:=putL_new HP.out (fun h=>absurd h hlt)
    rw [List.take_length,List.drop_length] at hN
    clear HA HP
    obtain ⟨DD,hDD⟩:∃ D:List ByteArray,D=[]:=⟨_,rfl⟩
    obtain ⟨TT,hTT⟩:∃ T:List ByteArray,T=X:=⟨_,rfl⟩
    have hDl:DD.length≤3000000:=by rw [hDD];first | omega | (simp;done) | (simp;omega)
    have hTl:TT.length≤3000000:=by rw [hTT];first | omega | (simp;done) | (simp;omega)
    have HN:Hid (putL X s=TT++[s]++DD):=(by rw [hTT,hDD];exact hN:putL X s=TT++[s]++DD)
    have ht:Lst c wr (.slice (some ⟨sb,off,none⟩) X.length cap) TT:=by rw [hTT];exact hL'
    by_cases hcap:cap=X.length
    ·have hd:Lst c wr (.slice (some ⟨sb,off,none⟩) 0 0) DD:=by
      rw [hDD]
      exact Or.inr ⟨sb,off,0,rfl,Nat.le_refl _,Nat.zero_le _,Nat.lt_of_lt_of_le h3 hB.size,h4,fun i hi=>absurd hi (Nat.not_lt_zero _)⟩
     subst hcap
     clear hDD hTT hN
     unfold maxLen at h2
     go_wp2_with fail
     refine (l1Texts_any c _ DD _ hd (by omega)).mono ?_
     rintro e w1 ⟨v1,rfl,hr1,hb1⟩
     have hB1:=bstep hB hb1
     have ht1:=ht.call hb1
     obtain ⟨g1,cp1,rfl⟩:=hr1.shape
     go_wp2_with fail
     refine (l1Texts_any c _ TT _ ht1 (by omega)).mono ?_
     rintro e w2 ⟨v2,rfl,hr2,hb2⟩
     have hB2:=bstep hB1 hb2
     have hr1':=hr1.call hb2
     have hs2:=hB2.size
     have hs1:=hB1.size
     have hO2:OwnN w2 w.heap.size v2 TT:=⟨ownT_mono hr2.1 hs1,hr2.2⟩
     obtain ⟨g2,cp2,rfl⟩:=hO2.shape
     have hcc1:∀ j u,[Value.string s][j]?=some u→(w2.alloc (.cells #[.string s] 9)).cell? ((⟨w2.heap.size,0,none⟩:Addr).add j)=some u:=fun j u hj=>by
      match j,hj with
      | 0,hj=>simp at hj;subst hj;simp [Addr.add]
     have hcc2:∀ u∈[Value.string s],u.oneCell'=true:=fun u hu=>by simp at hu;subst hu;rfl
     have hc3:TT.length+1≤maxLen:=by unfold maxLen;omega
     have hc4:(TT.length+1) * 16≤140737488355328:=by omega
     have hc5:w.heap.size≤(w2.alloc (.cells #[.string s] 9)).heap.size:=by simp;omega
     go_wp2_with (at_builtin;refine wpList_append_own _ rfl _ _ 22 rfl w.heap.size 9 i0 (.string ⟨#[]⟩) 1 16 Tryz.underlying22 hi hz0 hz1 hz2 rfl (by decide) _ _ _ rfl (World.ownsRow.alloc hO2.1 _) ⟨w2.heap.size,0,none⟩ 1 1 [.string s] rfl rfl hcc1 hcc2 hc3 hc4 hc5 ?_)
     intro v3 w3 hown3 hgrow3 hnil3
     have hO3:OwnN w3 w.heap.size v3 (TT++[s]):=by
      refine ⟨?_,fun er=>?_⟩
      ·unfold OwnT
       rw [List.map_append,List.length_append]
       exact hown3
      ·exact hnil3 er
     have hB3:Below w.heap.size w w3:=(balloc hB2 _).grown hgrow3 hc5 (fun q hq=>(World.ownsRow.lt hO2.1 q hq).1)
     have hlo1:=hr1.lo
     have hlo2:=hr2.lo
     have hr3:=(hr1'.alloc (.cells #[.string s] 9)).grown hgrow3 (by simp [Value.ownBlock];omega)
     obtain ⟨g3,cp3,rfl⟩:=hO3.shape
     clear hown3 hgrow3 hnil3 hcc1 hcc2 hc3 hc4 hc5
     have hcc1:=hr3.cells
     have hcc2:∀ u∈DD.map Value.string,u.oneCell'=true:=fun u hu=>by
      obtain ⟨z,_,rfl⟩:=List.mem_map.1 hu
      rfl
     have hc0:(DD.map Value.string).length=DD.length * 1:=by simp
     have hc3:(TT++[s]).length+DD.length≤maxLen:=by unfold maxLen;simp;omega
     have hc4:((TT++[s]).length+DD.length) * 16≤140737488355328:=by simp;omega
     have hc5:=hB3.size
     generalize hMM:TT++[s]=MM at hO3 HN hc3 hc4 ⊢
     clear hMM
     go_wp2_with (at_builtin;refine wpList_append_own _ rfl _ _ 22 rfl w.heap.size 9 i0 (.string ⟨#[]⟩) 1 16 Tryz.underlying22 hi hz0 hz1 hz2 rfl (by decide) _ _ _ rfl hO3.1 ⟨g1,0,none⟩ DD.length cp1 (DD.map Value.string) rfl hc0 hcc1 hcc2 hc3 hc4 hc5 ?_)
     intro v4 w4 hown4 hgrow4 hnil4
     have hO4:OwnN w4 w.heap.size v4 (MM++DD):=by
      refine ⟨?_,fun er=>?_⟩
      ·unfold OwnT
       rw [List.map_append,List.length_append]
       exact hown4
      ·simp [er] at hnil4
     have hB4:Below w.heap.size w w4:=hB3.grown hgrow4 hc5 (fun q hq=>(World.ownsRow.lt hO3.1 q hq).1)
     clear hown4 hgrow4 hnil4 hcc1 hcc2
     rw [← HN.out] at hO4
     obtain ⟨g4,cp4,rfl⟩:=hO4.shape
     have hF:=hO4.lst hcw hsz
     go_wp2
     go_ret
     exact ⟨_,rfl,Or.inr hO4,hF,hB4⟩
    ·have hd:Lst c wr (.slice (some ⟨sb,off+X.length,none⟩) 0 (cap - X.length)) DD:=by
      rw [hDD]
      exact Or.inr ⟨sb,off+X.length,cap - X.length,rfl,Nat.zero_le _,by omega,Nat.lt_of_lt_of_le h3 hB.size,h4,fun i hi=>absurd hi (Nat.not_lt_zero _)⟩
     clear hDD hTT hN
     unfold maxLen at h2
     go_wp2_with fail
     refine (l1Texts_any c _ DD _ hd (by omega)).mono ?_
     rintro e w1 ⟨v1,rfl,hr1,hb1⟩
     have hB1:=bstep hB hb1
     have ht1:=ht.call hb1
     obtain ⟨g1,cp1,rfl⟩:=hr1.shape
     go_wp2_with fail
     refine (l1Texts_any c _ TT _ ht1 (by omega)).mono ?_
     rintro e w2 ⟨v2,rfl,hr2,hb2⟩
     have hB2:=bstep hB1 hb2
     have hr1':=hr1.call hb2
     have hs2:=hB2.size
     have hs1:=hB1.size
     have hO2:OwnN w2 w.heap.size v2 TT:=⟨ownT_mono hr2.1 hs1,hr2.2⟩
     obtain ⟨g2,cp2,rfl⟩:=hO2.shape
     have hcc1:∀ j u,[Value.string s][j]?=some u→(w2.alloc (.cells #[.string s] 9)).cell? ((⟨w2.heap.size,0,none⟩:Addr).add j)=some u:=fun j u hj=>by
      match j,hj with
      | 0,hj=>simp at hj;subst hj;simp [Addr.add]
     have hcc2:∀ u∈[Value.string s],u.oneCell'=true:=fun u hu=>by simp at hu;subst hu;rfl
     have hc3:TT.length+1≤maxLen:=by unfold maxLen;omega
     have hc4:(TT.length+1) * 16≤140737488355328:=by omega
     have hc5:w.heap.size≤(w2.alloc (.cells #[.string s] 9)).heap.size:=by simp;omega
     go_wp2_with (at_builtin;refine wpList_append_own _ rfl _ _ 22 rfl w.heap.size 9 i0 (.string ⟨#[]⟩) 1 16 Tryz.underlying22 hi hz0 hz1 hz2 rfl (by decide) _ _ _ rfl (World.ownsRow.alloc hO2.1 _) ⟨w2.heap.size,0,none⟩ 1 1 [.string s] rfl rfl hcc1 hcc2 hc3 hc4 hc5 ?_)
     intro v3 w3 hown3 hgrow3 hnil3
     have hO3:OwnN w3 w.heap.size v3 (TT++[s]):=by
      refine ⟨?_,fun er=>?_⟩
      ·unfold OwnT
       rw [List.map_append,List.length_append]
       exact hown3
      ·exact hnil3 er
     have hB3:Below w.heap.size w w3:=(balloc hB2 _).grown hgrow3 hc5 (fun q hq=>(World.ownsRow.lt hO2.1 q hq).1)
     have hlo1:=hr1.lo
     have hlo2:=hr2.lo
     have hr3:=(hr1'.alloc (.cells #[.string s] 9)).grown hgrow3 (by simp [Value.ownBlock];omega)
     obtain ⟨g3,cp3,rfl⟩:=hO3.shape
     clear hown3 hgrow3 hnil3 hcc1 hcc2 hc3 hc4 hc5
     have hcc1:=hr3.cells
     have hcc2:∀ u∈DD.map Value.string,u.oneCell'=true:=fun u hu=>by
      obtain ⟨z,_,rfl⟩:=List.mem_map.1 hu
      rfl
     have hc0:(DD.map Value.string).length=DD.length * 1:=by simp
     have hc3:(TT++[s]).length+DD.length≤maxLen:=by unfold maxLen;simp;omega
     have hc4:((TT++[s]).length+DD.length) * 16≤140737488355328:=by simp;omega
     have hc5:=hB3.size
     generalize hMM:TT++[s]=MM at hO3 HN hc3 hc4 ⊢
     clear hMM
     go_wp2_with (at_builtin;refine wpList_append_own _ rfl _ _ 22 rfl w.heap.size 9 i0 (.string ⟨#[]⟩) 1 16 Tryz.underlying22 hi hz0 hz1 hz2 rfl (by decide) _ _ _ rfl hO3.1 ⟨g1,0,none⟩ DD.length cp1 (DD.map Value.string) rfl hc0 hcc1 hcc2 hc3 hc4 hc5 ?_)
     intro v4 w4 hown4 hgrow4 hnil4
     have hO4:OwnN w4 w.heap.size v4 (MM++DD):=by
      refine ⟨?_,fun er=>?_⟩
      ·unfold OwnT
       rw [List.map_append,List.length_append]
       exact hown4
      ·simp [er] at hnil4
     have hB4:Below w.heap.size w w4:=hB3.grown hgrow4 hc5 (fun q hq=>(World.ownsRow.lt hO3.1 q hq).1)
     clear hown4 hgrow4 hnil4 hcc1 hcc2
     rw [← HN.out] at hO4
     obtain ⟨g4,cp4,rfl⟩:=hO4.shape
     have hF:=hO4.lst hcw hsz
     go_wp2
     go_ret
     exact ⟨_,rfl,Or.inr hO4,hF,hB4⟩
-- END l5Put
theorem l5Put_any (c:Nat) (v:Value) (X:List ByteArray) (s:ByteArray) (w:World) (h:Lst c w v X) (hX:X.length≤3000000) (hs:s.size≤maxLen) (hcw:c < w.heap.size) :
  Calls Tryz.prog 129 #[v,.string s] w fun e w'=>∃ v',e=.returned v'∧Lst c w' v' (putL X s)∧Below w.heap.size w w' :=
 (l5Put_own c v X s w h hX hs hcw).mono fun _ _ ⟨v',he,_,hl,hb⟩=>⟨v',he,hl,hb⟩
end Go.Proofs.YtdgihicpjonjgaaGreatDoor
namespace Go.Proofs.YtdgihicpjonjgaaGreatDoor
open Go.RowKit
theorem Lst.txt {c sb off n cap:Nat} {w:World} {X:List ByteArray} (h:Lst c w (.slice (some ⟨sb,off,none⟩) n cap) X):Txt sb off X w:=fun i hi=>by
 rcases h with ⟨h,_⟩ | ⟨sb',off',cap',hv,h1,h2,h3,h4,h5⟩
 ·cases h
 ·injection hv with ha _ hc
  injection ha with ha
  injection ha with e1 e2 _
  subst e1 e2
  exact (h5 i hi).1
set_option maxHeartbeats 400000 in
theorem l1At_lst (c:Nat) (v:Value) (X:List ByteArray) (s:ByteArray) (w:World) (h:Lst c w v X) (hl:X.length≤5000000) :
  Calls Tryz.prog 102 #[v,.string s] w fun e w'=>∃ x:Int,e=.returned (.int .i64 x)∧(0≤x↔inB X s=true)∧w'=w:=by
 rcases id h with ⟨rfl,rfl⟩ | ⟨sb,off,cap,rfl,_⟩
 ·go_enter Tryz.func102,Tryz.ntmps102
  go_wp2
  refine wp_loop_rounds 1 ?_
  rw [rounds_succ]
  go_wp2
  go_ret
  exact ⟨_,rfl,by simp [inB],rfl⟩
 ·refine (l1At_any sb off cap X s w h.txt hl).mono ?_
  rintro e w' ⟨x,rfl,hx,rfl⟩
  exact ⟨x,rfl,hx.trans (inB_iff X s).symm,rfl⟩
end Go.Proofs.YtdgihicpjonjgaaGreatDoor
namespace Go.Proofs.YtdgihicpjonjgaaGreatDoor
open Go.RowKit
def TwAt (B:Nat) (w0:World) (c sb off k cap:Nat) (t:ByteArray) (TT:List ByteArray) (x:World):Prop:=x.cell? ⟨sb,off+k,none⟩=some (.string t)∧Lst c x (.slice (some ⟨sb,off,none⟩) k cap) TT∧Below B w0 x
theorem TwAt.drew {B c sb off k cap:Nat} {w0 W:World} {t:ByteArray} {TT:List ByteArray} (h:TwAt B w0 c sb off k cap t TT W):TwAt B w0 c sb off k cap t TT W.drew:=⟨h.1,h.2.1,h.2.2.drew⟩
set_option maxHeartbeats 2000000 in
theorem l5Twice_any (c:Nat) (v:Value) (X:List ByteArray) (w:World) (h:Lst c w v X) (hX:X.length≤5000000) :
  Calls Tryz.prog 59 #[v] w fun e w'=>e=.returned (.bool (twiceB X))∧Below w.heap.size w w':=by
 rcases id h with ⟨rfl,rfl⟩ | ⟨sb,off,cap,rfl,h1,h2,h3,h4,h5⟩
 ·go_enter Tryz.func59,Tryz.ntmps59
  go_wp2
  refine wp_loop_rounds 1 ?_
  rw [rounds_succ]
  go_wp2
  go_ret
  exact ⟨rfl,Below.refl _ _⟩
 ·unfold maxLen at h2
  go_enter Tryz.func59,Tryz.ntmps59
  go_wp2
  go_loopw [3] (fun v3 wr=>∃ k:Nat,v3=.int .i64 (k:Int)∧k≤X.length∧Hid (∀ j (h:j < X.length),j < k→inB (X.take j) X[j]=false)∧Below w.heap.size w wr) (fun v3 _=>X.length - (intOf v3).toNat)
  case atStart=>exact ⟨0,rfl,Nat.zero_le _,fun j _ hj=>absurd hj (Nat.not_lt_zero _),Below.refl _ _⟩
  case round =>
   obtain ⟨k,rfl,hk,HA,hB⟩:=hrel
   by_cases hlt:k < X.length
   ·have hc:=(hB.cell (p:=⟨sb,off+k,none⟩) h3).trans (h5 k hlt).1
    have ht:=(h.call hB).take hk
    obtain ⟨TT,hTT⟩:∃ T:List ByteArray,T=X.take k:=⟨_,rfl⟩
    have hTl:TT.length≤5000000:=by rw [hTT];simp;omega
    cases hq:inB (X.take k) X[k]
    ·have HN:Hid (∀ j (h:j < X.length),j < k+1→inB (X.take j) X[j]=false):=fun j hj hlt'=>by
      by_cases e:j=k
      ·subst e;exact hq
      ·exact HA.out j hj (by omega)
     rw [← hTT] at ht hq
     clear HA hTT
     have HQ:Hid (inB TT X[k]=false):=hq
     clear hq
     generalize X[k]=t at hc HQ
     have hT:TwAt w.heap.size w c sb off k cap t TT wr:=⟨hc,ht,hB⟩
     have j0:(0:Int)≤(k:Int):=by omega
     have j1:(k:Int)≤(cap:Int):=by omega
     have j2:(k:Int) < (X.length:Int):=by omega
     have j3:(X.length:Int)≤(cap:Int):=by omega
     clear hc ht
     go_upto_region 4 with fail
     go_region_held3 (fun x=>x.cell? ⟨sb,off+k,none⟩=some (.string t)∧Lst c x (.slice (some ⟨sb,off,none⟩) k cap) TT∧Below w.heap.size w x)
      ((show TwAt w.heap.size w c sb off k cap t TT _;first | (with_reducible exact hT3) | (with_reducible exact hT.drew)))
      (first
       | (go_at_call 102;refine (l1At_lst c _ TT t _ hT.drew.2.1 hTl).mono ?_;rintro e w3 ⟨x,rfl,hx,rfl⟩;have hT3:=hT.drew;have hx0:¬ 0≤x:=(fun hh=>by have:=hx.mp hh;rw [HQ.out] at this;exact absurd this (by decide));clear hx))
     all_goals go_wp2
     all_goals first
      | (exfalso;omega)
      | exact ⟨⟨k+1,by go_num,by omega,HN.out,hT3.2.2⟩,by simp [intOf];omega⟩
    ·have HE:Hid (twiceB X=true):=twice_yes hlt hq
     rw [← hTT] at ht hq
     clear HA hTT
     have HQ:Hid (inB TT X[k]=true):=hq
     clear hq
     generalize X[k]=t at hc HQ
     have hT:TwAt w.heap.size w c sb off k cap t TT wr:=⟨hc,ht,hB⟩
     have j0:(0:Int)≤(k:Int):=by omega
     have j1:(k:Int)≤(cap:Int):=by omega
     have j2:(k:Int) < (X.length:Int):=by omega
     have j3:(X.length:Int)≤(cap:Int):=by omega
     clear hc ht
     go_upto_region 4 with fail
     go_region_held3 (fun x=>x.cell? ⟨sb,off+k,none⟩=some (.string t)∧Lst c x (.slice (some ⟨sb,off,none⟩) k cap) TT∧Below w.heap.size w x)
      ((show TwAt w.heap.size w c sb off k cap t TT _;first | (with_reducible exact hT3) | (with_reducible exact hT.drew)))
      (first
       | (go_at_call 102;refine (l1At_lst c _ TT t _ hT.drew.2.1 hTl).mono ?_;rintro e w3 ⟨x,rfl,hx,rfl⟩;have hT3:=hT.drew;have hx0:0≤x:=hx.mpr HQ.out;clear hx))
     all_goals go_wp2
     all_goals first
      | (exfalso;omega)
      | (go_ret;exact ⟨by rw [HE.out];rfl,hT3.2.2⟩)
   ·have HE:Hid (twiceB X=false):=twice_no fun j hj=>HA.out j hj (by omega)
    clear HA
    go_wp2
    go_ret
    exact ⟨by rw [HE.out];rfl,hB⟩
def Fnd (c:Nat) (w:World) (F:Ot):Prop:=∃ vf vs,w.cell? ⟨c,0,none⟩=some vf∧w.cell? ⟨c,1,none⟩=some vs∧w.cell? ⟨c,2,none⟩=some (.bool F.bad)∧Lst c w vf F.fr∧Lst c w vs F.sc∧w.frozen? ⟨c,0,none⟩=false∧w.frozen? ⟨c,1,none⟩=false∧w.frozen? ⟨c,2,none⟩=false∧c < w.heap.size
theorem Fnd.call {c:Nat} {w w':World} {F:Ot} (h:Fnd c w F) (hb:Below w.heap.size w w'):Fnd c w' F:=by
 obtain ⟨vf,vs,h0,h1,h2,l0,l1,f0,f1,f2,hz⟩:=h
 exact ⟨vf,vs,(hb.cell (p:=⟨c,0,none⟩) hz).trans h0,(hb.cell (p:=⟨c,1,none⟩) hz).trans h1,(hb.cell (p:=⟨c,2,none⟩) hz).trans h2,l0.call hb,l1.call hb,(hb.frozen (p:=⟨c,0,none⟩) hz).trans f0,(hb.frozen (p:=⟨c,1,none⟩) hz).trans f1,(hb.frozen (p:=⟨c,2,none⟩) hz).trans f2,Nat.lt_of_lt_of_le hz hb.size⟩
theorem Fnd.lt {c:Nat} {w:World} {F:Ot} (h:Fnd c w F):c < w.heap.size:=by
 obtain ⟨_,_,_,_,_,_,_,_,_,_,hz⟩:=h
 exact hz
theorem fnd_set {c:Nat} {w:World} {F:Ot} (h:Fnd c w F) (o:Nat) (ho:o < 3) (v:Value):∃ u,w.cell? ⟨c,o,none⟩=some u∧(w.setCell ⟨c,o,none⟩ v).cell? ⟨c,o,none⟩=some v:=by
 obtain ⟨vf,vs,h0,h1,h2,_⟩:=h
 obtain rfl | rfl | rfl:o=0∨o=1∨o=2:=by omega
 ·exact ⟨_,h0,World.cell?_setCell_same w _ _ h0⟩
 ·exact ⟨_,h1,World.cell?_setCell_same w _ _ h1⟩
 ·exact ⟨_,h2,World.cell?_setCell_same w _ _ h2⟩
theorem other_cell {c o o':Nat} (w:World) (v:Value) (h:o≠o'):(w.setCell ⟨c,o,none⟩ v).cell? ⟨c,o',none⟩=w.cell? ⟨c,o',none⟩ :=
 World.cell?_setCell_other w ⟨c,o,none⟩ ⟨c,o',none⟩ v (fun hh=>h (by injection hh with _ h2 _))
theorem Lst.setC {c o:Nat} {w:World} {v u:Value} {X:List ByteArray} (h:Lst c w v X):Lst c (w.setCell ⟨c,o,none⟩ u) v X:=h.but ((But.refl c w).setCur o u)
theorem Fnd.setFr {c:Nat} {w:World} {F:Ot} {v:Value} {Y:List ByteArray} (h:Fnd c w F) (hv:Lst c w v Y):Fnd c (w.setCell ⟨c,0,none⟩ v) ⟨Y,F.sc,F.bad⟩:=by
 obtain ⟨u,_,hs⟩:=fnd_set h 0 (by decide) v
 obtain ⟨vf,vs,h0,h1,h2,l0,l1,f0,f1,f2,hz⟩:=h
 refine ⟨v,vs,hs,(other_cell w v (by decide)).trans h1,(other_cell w v (by decide)).trans h2,hv.setC,l1.setC,?_,?_,?_,by simpa [World.setCell] using hz⟩
 all_goals simpa [go_sem] using by assumption
theorem Fnd.setSc {c:Nat} {w:World} {F:Ot} {v:Value} {Y:List ByteArray} (h:Fnd c w F) (hv:Lst c w v Y):Fnd c (w.setCell ⟨c,1,none⟩ v) ⟨F.fr,Y,F.bad⟩:=by
 obtain ⟨u,_,hs⟩:=fnd_set h 1 (by decide) v
 obtain ⟨vf,vs,h0,h1,h2,l0,l1,f0,f1,f2,hz⟩:=h
 refine ⟨vf,v,(other_cell w v (by decide)).trans h0,hs,(other_cell w v (by decide)).trans h2,l0.setC,hv.setC,?_,?_,?_,by simpa [World.setCell] using hz⟩
 all_goals simpa [go_sem] using by assumption
theorem Fnd.setBad {c:Nat} {w:World} {F:Ot} (h:Fnd c w F) (b:Bool):Fnd c (w.setCell ⟨c,2,none⟩ (.bool b)) ⟨F.fr,F.sc,b⟩:=by
 obtain ⟨u,_,hs⟩:=fnd_set h 2 (by decide) (.bool b)
 obtain ⟨vf,vs,h0,h1,h2,l0,l1,f0,f1,f2,hz⟩:=h
 refine ⟨vf,vs,(other_cell w _ (by decide)).trans h0,(other_cell w _ (by decide)).trans h1,hs,l0.setC,l1.setC,?_,?_,?_,by simpa [World.setCell] using hz⟩
 all_goals simpa [go_sem] using by assumption
set_option maxHeartbeats 2000000 in
theorem l5Use_any (c:Nat) (F:Ot) (K:Kn) (vn vh:Value) (s:ByteArray) (w:World) (h:Fnd c w F) (hn:Lst c w vn K.nm) (hl:K.nm.length≤5000000) (hF:F.fr.length≤2000000) (hs:s.size≤maxLen) :
  Calls Tryz.prog 108 #[.pointer (some ⟨c,0,none⟩),.agg #[vn,vh,.bool K.lp],.string s] w fun e w'=>e=.returned (.tuple #[])∧Fnd c w' (F.plus (useO K s))∧But c w w':=by
 have hcz:=h.lt
 have hb0:Below w.heap.size w (w.alloc (.cells #[vn,vh,.bool K.lp] 58)):=balloc (Below.refl _ _) _
 have h1:=h.call hb0
 have hn1:=hn.call hb0
 have hcz1:c < (w.alloc (.cells #[vn,vh,.bool K.lp] 58)).heap.size:=h1.lt
 cases hq:inB K.nm s
 ·have HF:Hid (F.plus (useO K s)=⟨putL F.fr s,F.sc,F.bad⟩):=(by unfold useO;rw [hq];simp [Ot.plus,putAll]:F.plus (useO K s)=⟨putL F.fr s,F.sc,F.bad⟩)
  have HQ:Hid (inB K.nm s=false):=hq
  clear hq
  go_enter Tryz.func108,Tryz.ntmps108
  go_wp2_with fail
  refine (l1At_lst c _ K.nm s _ hn1 hl).mono ?_
  rintro e w1 ⟨x,rfl,hx,rfl⟩
  have hx0:¬ 0≤x:=fun hh=>by
   have:=hx.mp hh
   rw [HQ.out] at this
   exact absurd this (by decide)
  clear hx
  obtain ⟨vf,vs,c0,c1,c2,l0,l1,f0,f1,f2,_⟩:=id h1
  go_wp2_with fail
  refine (l5Put_any c _ F.fr s _ l0 (by omega) hs hcz1).mono ?_
  rintro e w2 ⟨v2,rfl,hv2,hb2⟩
  have h2:=h1.call hb2
  obtain ⟨vf',vs',d0,d1,d2,_,_,g0,g1,g2,hz2⟩:=id h2
  have hR:=h2.setFr hv2
  have hBt:But c w (w2.setCell ⟨c,0,none⟩ v2):=(((But.refl c w).alloc _).call (But.of_below hb2)).setCur 0 v2
  obtain ⟨av,nv,cv,rfl⟩:∃ av nv cv,v2=.slice av nv cv:=by
   rcases hv2 with ⟨hv,_⟩ | ⟨sb,off,cap,hv,_⟩
   ·exact ⟨_,_,_,hv⟩
   ·exact ⟨_,_,_,hv⟩
  go_wp2
  go_end0
  exact ⟨rfl,by rw [HF.out];exact hR,hBt⟩
 ·have HF:Hid (F.plus (useO K s)=F):=(by unfold useO;rw [hq];exact Ot.plus_none F:F.plus (useO K s)=F)
  have HQ:Hid (inB K.nm s=true):=hq
  clear hq
  go_enter Tryz.func108,Tryz.ntmps108
  go_wp2_with fail
  refine (l1At_lst c _ K.nm s _ hn1 hl).mono ?_
  rintro e w1 ⟨x,rfl,hx,rfl⟩
  have hx0:0≤x:=hx.mpr HQ.out
  clear hx
  go_wp2
  go_end0
  exact ⟨rfl,by rw [HF.out];exact h1,(But.refl c w).alloc _⟩
set_option maxHeartbeats 2000000 in
theorem l5Hide_any (c:Nat) (F:Ot) (K:Kn) (vn vh:Value) (s:ByteArray) (w:World) (h:Fnd c w F) (hn:Lst c w vh K.hd) (hl:K.hd.length≤5000000) (hF:F.sc.length≤2000000) (hs:s.size≤maxLen) :
  Calls Tryz.prog 110 #[.pointer (some ⟨c,0,none⟩),.agg #[vn,vh,.bool K.lp],.string s] w fun e w'=>e=.returned (.tuple #[])∧Fnd c w' (F.plus (hideO K s))∧But c w w':=by
 have hcz:=h.lt
 have hb0:Below w.heap.size w (w.alloc (.cells #[vn,vh,.bool K.lp] 58)):=balloc (Below.refl _ _) _
 have h1:=h.call hb0
 have hn1:=hn.call hb0
 have hcz1:c < (w.alloc (.cells #[vn,vh,.bool K.lp] 58)).heap.size:=h1.lt
 cases hq:inB K.hd s
 ·have HF:Hid (F.plus (hideO K s)=⟨F.fr,putL F.sc s,F.bad⟩):=(by unfold hideO;rw [hq];simp [Ot.plus,putAll]:F.plus (hideO K s)=⟨F.fr,putL F.sc s,F.bad⟩)
  have HQ:Hid (inB K.hd s=false):=hq
  clear hq
  go_enter Tryz.func110,Tryz.ntmps110
  go_wp2_with fail
  refine (l1At_lst c _ K.hd s _ hn1 hl).mono ?_
  rintro e w1 ⟨x,rfl,hx,rfl⟩
  have hx0:¬ 0≤x:=fun hh=>by
   have:=hx.mp hh
   rw [HQ.out] at this
   exact absurd this (by decide)
  clear hx
  obtain ⟨vf,vs,c0,c1,c2,l0,l1,f0,f1,f2,_⟩:=id h1
  go_wp2_with fail
  refine (l5Put_any c _ F.sc s _ l1 (by omega) hs hcz1).mono ?_
  rintro e w2 ⟨v2,rfl,hv2,hb2⟩
  have h2:=h1.call hb2
  obtain ⟨vf',vs',d0,d1,d2,_,_,g0,g1,g2,hz2⟩:=id h2
  have hR:=h2.setSc hv2
  have hBt:But c w (w2.setCell ⟨c,1,none⟩ v2):=(((But.refl c w).alloc _).call (But.of_below hb2)).setCur 1 v2
  obtain ⟨av,nv,cv,rfl⟩:∃ av nv cv,v2=.slice av nv cv:=by
   rcases hv2 with ⟨hv,_⟩ | ⟨sb,off,cap,hv,_⟩
   ·exact ⟨_,_,_,hv⟩
   ·exact ⟨_,_,_,hv⟩
  go_wp2
  go_end0
  exact ⟨rfl,by rw [HF.out];exact hR,hBt⟩
 ·have HF:Hid (F.plus (hideO K s)=F):=(by unfold hideO;rw [hq];exact Ot.plus_none F:F.plus (hideO K s)=F)
  have HQ:Hid (inB K.hd s=true):=hq
  clear hq
  go_enter Tryz.func110,Tryz.ntmps110
  go_wp2_with fail
  refine (l1At_lst c _ K.hd s _ hn1 hl).mono ?_
  rintro e w1 ⟨x,rfl,hx,rfl⟩
  have hx0:0≤x:=hx.mpr HQ.out
  clear hx
  go_wp2
  go_end0
  exact ⟨rfl,by rw [HF.out];exact h1,(But.refl c w).alloc _⟩
end Go.Proofs.YtdgihicpjonjgaaGreatDoor
namespace Go.Proofs.YtdgihicpjonjgaaGreatDoor
open Go.RowKit
def ArgC (c:Nat) (w:World) (a:Option Addr) (L:List ByteArray):Prop:=∀ i (h:i < L.length),∃ sb off,a=some ⟨sb,off,none⟩∧sb < w.heap.size∧sb≠c∧w.cell? ⟨sb,off+i,none⟩=some (.string L[i])∧L[i].size≤maxLen
theorem ArgC.arg {c:Nat} {w:World} {a:Option Addr} {L:List ByteArray} (h:ArgC c w a L):ArgT w a L:=fun i hi=>by
 obtain ⟨sb,off,ha,hs,_,hc,hm⟩:=h i hi
 exact ⟨sb,off,ha,hs,hc,hm⟩
theorem ArgC.but {c:Nat} {w w':World} {a:Option Addr} {L:List ByteArray} (h:ArgC c w a L) (hb:But c w w'):ArgC c w' a L:=fun i hi=>by
 obtain ⟨sb,off,ha,hs,hn,hc,hm⟩:=h i hi
 exact ⟨sb,off,ha,Nat.lt_of_lt_of_le hs hb.2.2.2.1,hn,(hb.cell sb (off+i) hs hn).trans hc,hm⟩
theorem ArgC.call {c:Nat} {w w':World} {a:Option Addr} {L:List ByteArray} (h:ArgC c w a L) (hb:Below w.heap.size w w'):ArgC c w' a L:=h.but (But.of_below hb)
theorem ArgC.at {c:Nat} {w:World} {a:Option Addr} {L:List ByteArray} (h:ArgC c w a L) (k:Nat) (hk:k < L.length):∃ sb off,a=some ⟨sb,off,none⟩∧w.cell? ⟨sb,off+k,none⟩=some (.string (sgAt L (k:Int)))∧(sgAt L (k:Int)).size≤maxLen∧sb < w.heap.size∧sb≠c:=by
 obtain ⟨sb,off,ha,hs,hn,hc,hm⟩:=h k hk
 have e:sgAt L (k:Int)=L[k]:=by rw [sgAt_in (by omega) (by omega)];rfl
 rw [e]
 exact ⟨sb,off,ha,hc,hm,hs,hn⟩
set_option maxHeartbeats 2000000 in
theorem l5Params_any (a:Option Addr) (cap:Nat) (L:List ByteArray) (i e7:Int) (kk:Nat) (w:World) (h:ArgT w a L) (hL:L.length≤1048576) (hi0:0≤i) (hch:chainQ L kk (i+3) e7) (he0:0≤e7) (he1:e7 < (L.length:Int)) (he:isW (sgAt L e7) [41]=true) :
  Calls Tryz.prog 130 #[.slice a L.length cap,.int .i64 i] w fun e w'=>∃ v,e=.returned (.tuple #[v,.int .i64 (e7+1)])∧OwnN w' w.heap.size v ((chainP L kk (i+3)).map (parN L))∧Below w.heap.size w w':=by
 obtain ⟨i0,hi,hz0,hz1,hz2⟩:=info_parts Tryz.infoS
 have hce:=chainQ_ends kk _ hch he0
 go_enter Tryz.func130,Tryz.ntmps130
 go_wp2
 go_loopw [1,6] (fun v1 v6 wr=>∃ (x m:Nat) (Y:List ByteArray),v1=.int .i64 (x:Int)∧chainQ L m (x:Int) e7∧OwnN wr w.heap.size v6 Y∧Y.length≤x∧Hid (Y++(chainP L m (x:Int)).map (parN L)=(chainP L kk (i+3)).map (parN L))∧Below w.heap.size w wr) (fun v1 _ _=>e7.toNat - (intOf v1).toNat)
 case atStart =>
  obtain ⟨q,hq⟩:∃ q:Nat,i=(q:Int):=⟨i.toNat,by omega⟩
  subst hq
  exact ⟨q+3,kk,[],by go_num,by rw [show ((q+3:Nat):Int)=(q:Int)+3 by omega];exact hch,ownN_new w _ (Nat.le_refl _),by simp,by rw [show ((q+3:Nat):Int)=(q:Int)+3 by omega];rfl,balloc (Below.refl _ _) _⟩
 case round =>
  obtain ⟨x,m,Y,rfl,hm,hown,hY,HS,hB⟩:=hrel
  have hxe:=chainQ_ends m _ hm he0
  have hx:x < L.length:=by omega
  obtain ⟨sb,off,rfl,hs,hc,_⟩:=h x hx
  have hc':=(hB.cell (p:=⟨sb,off+x,none⟩) hs).trans hc
  have HG:Hid (sgAt L (x:Int)=L[x]):=(by rw [sgAt_in (by omega) (by omega)];rfl:sgAt L (x:Int)=L[x])
  have hsz:=hB.size
  obtain ⟨g,cp,rfl⟩:=hown.shape
  have hA:=h.call hB
  cases m with
  | zero =>
   have ex:(x:Int)=e7:=hm
   have b41:(L[x].toList == [41])=true:=by rw [← HG.out,ex];exact he
   have HE:Hid (OwnN wr w.heap.size (.slice (some ⟨g,0,none⟩) Y.length cp) ((chainP L kk (i+3)).map (parN L))):=(by rw [← HS.out];show OwnN wr w.heap.size _ (Y++[]);rw [List.append_nil];exact hown:OwnN wr w.heap.size (.slice (some ⟨g,0,none⟩) Y.length cp) ((chainP L kk (i+3)).map (parN L)))
   subst ex
   clear hc HG hown HS hch
   generalize L[x]=t at hc' b41
   go_wp2
   go_ret2
   exact ⟨_,rfl,HE.out,hB⟩
  | succ m =>
   obtain ⟨hp,hm2⟩:=hm
   obtain ⟨p0,p1,hpp⟩:=par_at hp
   have hpe:=par_ends hp
   have hq:=chainQ_ends m _ hm2 he0
   have b41:(L[x].toList == [41])=false:=by rw [← HG.out];exact par_not41 hp
   have HI:Hid (Y++[parN L (x:Int)]++(chainP L m (itemE L (x:Int))).map (parN L)=(chainP L kk (i+3)).map (parN L)):=(by rw [← HS.out,List.append_assoc];rfl:Y++[parN L (x:Int)]++(chainP L m (itemE L (x:Int))).map (parN L)=(chainP L kk (i+3)).map (parN L))
   have hc3:Y.length+1≤maxLen:=by unfold maxLen;omega
   have hc4:(Y.length+1) * 16≤140737488355328:=by omega
   clear HS
   rcases hpp with ⟨q1,q2,q3,q4,q5⟩ | ⟨q1,q2,q3⟩
   ·have b40:(L[x].toList == [40])=true:=by rw [← HG.out];exact q1
    have hx1:x+1 < L.length:=by omega
    obtain ⟨sb',off',hae,hs',hcj,_⟩:=h (x+1) hx1
    injection hae with hae
    injection hae with e1 e2 _
    subst e1
    subst e2
    have c2:=(hB.cell (p:=⟨sb,off+(x+1),none⟩) hs).trans hcj
    have HP:Hid (parN L (x:Int)=L[x+1]):=(by unfold parN;rw [if_pos q1,sgAt_in (by omega) (by omega)];rfl:parN L (x:Int)=L[x+1])
    rw [HP.out] at HI
    clear hc hcj HP HG
    generalize L[x]=t at hc' b41 b40
    generalize L[x+1]=u at c2 HI
    have hcc1:∀ j v,[Value.string u][j]?=some v→(wr.alloc (.cells #[.string u] 9)).cell? ((⟨wr.heap.size,0,none⟩:Addr).add j)=some v:=fun j v hj=>by
     match j,hj with
     | 0,hj=>simp at hj;subst hj;simp [Addr.add]
    have hcc2:∀ v∈[Value.string u],v.oneCell'=true:=fun v hu=>by simp at hu;subst hu;rfl
    have hc5:w.heap.size≤(wr.alloc (.cells #[.string u] 9)).heap.size:=by simp;omega
    go_wp2_with (at_builtin;refine wpList_append_own _ rfl _ _ 22 rfl w.heap.size 9 i0 (.string ⟨#[]⟩) 1 16 Tryz.underlying22 hi hz0 hz1 hz2 rfl (by decide) _ _ _ rfl (World.ownsRow.alloc hown.1 _) ⟨wr.heap.size,0,none⟩ 1 1 [.string u] rfl rfl hcc1 hcc2 hc3 hc4 hc5 ?_)
    intro v' w3 hown' hgrow hnil
    have hR:OwnN w3 w.heap.size v' (Y++[u]):=by
     refine ⟨?_,fun er=>?_⟩
     ·unfold OwnT
      rw [List.map_append,List.length_append]
      exact hown'
     ·simp [er] at hnil
    have hB3:Below w.heap.size w w3:=(balloc hB _).grown hgrow hc5 (fun k hk=>(World.ownsRow.lt hown.1 k hk).1)
    clear hown' hgrow hnil
    go_wp2_with fail
    refine (itemEndS_any _ cap L (x:Int) _ (h.call hB3) hL ⟨by omega,by omega⟩).mono ?_
    rintro e w4 ⟨rfl,hb4⟩
    have hR4:=hR.call hb4
    have hB4:=bstep hB3 hb4
    obtain ⟨z,hz⟩:∃ z:Nat,itemE L (x:Int)=(z:Int):=⟨(itemE L (x:Int)).toNat,by omega⟩
    rw [hz] at HI hm2 hpe ⊢
    go_wp2
    go_roundw
    case rel=>exact ⟨z,m,Y++[u],rfl,hm2,hR4,by simp;omega,HI.out,hB4⟩
    case measure=>simp [intOf];omega
   ·have b40:(L[x].toList == [40])=false:=by rw [← HG.out];exact q1
    have HP:Hid (parN L (x:Int)=L[x]):=(by unfold parN;rw [if_neg (by rw [q1];decide)];exact HG.out:parN L (x:Int)=L[x])
    rw [HP.out] at HI
    clear hc HP HG
    generalize L[x]=u at hc' b41 b40 HI
    have hcc1:∀ j v,[Value.string u][j]?=some v→(wr.alloc (.cells #[.string u] 9)).cell? ((⟨wr.heap.size,0,none⟩:Addr).add j)=some v:=fun j v hj=>by
     match j,hj with
     | 0,hj=>simp at hj;subst hj;simp [Addr.add]
    have hcc2:∀ v∈[Value.string u],v.oneCell'=true:=fun v hu=>by simp at hu;subst hu;rfl
    have hc5:w.heap.size≤(wr.alloc (.cells #[.string u] 9)).heap.size:=by simp;omega
    go_wp2_with (at_builtin;refine wpList_append_own _ rfl _ _ 22 rfl w.heap.size 9 i0 (.string ⟨#[]⟩) 1 16 Tryz.underlying22 hi hz0 hz1 hz2 rfl (by decide) _ _ _ rfl (World.ownsRow.alloc hown.1 _) ⟨wr.heap.size,0,none⟩ 1 1 [.string u] rfl rfl hcc1 hcc2 hc3 hc4 hc5 ?_)
    intro v' w3 hown' hgrow hnil
    have hR:OwnN w3 w.heap.size v' (Y++[u]):=by
     refine ⟨?_,fun er=>?_⟩
     ·unfold OwnT
      rw [List.map_append,List.length_append]
      exact hown'
     ·simp [er] at hnil
    have hB3:Below w.heap.size w w3:=(balloc hB _).grown hgrow hc5 (fun k hk=>(World.ownsRow.lt hown.1 k hk).1)
    clear hown' hgrow hnil
    go_wp2_with fail
    refine (itemEndS_any _ cap L (x:Int) _ (h.call hB3) hL ⟨by omega,by omega⟩).mono ?_
    rintro e w4 ⟨rfl,hb4⟩
    have hR4:=hR.call hb4
    have hB4:=bstep hB3 hb4
    obtain ⟨z,hz⟩:∃ z:Nat,itemE L (x:Int)=(z:Int):=⟨(itemE L (x:Int)).toNat,by omega⟩
    rw [hz] at HI hm2 hpe ⊢
    go_wp2
    go_roundw
    case rel=>exact ⟨z,m,Y++[u],rfl,hm2,hR4,by simp;omega,HI.out,hB4⟩
    case measure=>simp [intOf];omega
set_option maxHeartbeats 2000000 in
theorem l5Gives_any (a:Option Addr) (cap:Nat) (L:List ByteArray) (i e7:Int) (kk:Nat) (w:World) (h:ArgT w a L) (hL:L.length≤1048576) (hi0:0≤i) (hch:chainQ L kk (i+3) e7) (he0:0≤e7) (he1:e7 < (L.length:Int)) (he:isW (sgAt L e7) [41]=true) :
  Calls Tryz.prog 131 #[.slice a L.length cap,.int .i64 i] w fun e w'=>e=.returned (.bool ((chainP L kk (i+3)).any fun p=>isW (sgAt L p) [40]))∧Below w.heap.size w w':=by
 have hce:=chainQ_ends kk _ hch he0
 go_enter Tryz.func131,Tryz.ntmps131
 go_wp2
 go_loopw [5] (fun v5 wr=>∃ x m:Nat,v5=.int .i64 (x:Int)∧chainQ L m (x:Int) e7∧Hid (((chainP L m (x:Int)).any fun p=>isW (sgAt L p) [40])=((chainP L kk (i+3)).any fun p=>isW (sgAt L p) [40]))∧Below w.heap.size w wr) (fun v5 _=>e7.toNat - (intOf v5).toNat)
 case atStart =>
  obtain ⟨q,hq⟩:∃ q:Nat,i=(q:Int):=⟨i.toNat,by omega⟩
  subst hq
  exact ⟨q+3,kk,by go_num,by rw [show ((q+3:Nat):Int)=(q:Int)+3 by omega];exact hch,by rw [show ((q+3:Nat):Int)=(q:Int)+3 by omega];rfl,Below.refl _ _⟩
 case round =>
  obtain ⟨x,m,rfl,hm,HS,hB⟩:=hrel
  have hxe:=chainQ_ends m _ hm he0
  have hx:x < L.length:=by omega
  obtain ⟨sb,off,rfl,hs,hc,_⟩:=h x hx
  have hc':=(hB.cell (p:=⟨sb,off+x,none⟩) hs).trans hc
  have HG:Hid (sgAt L (x:Int)=L[x]):=(by rw [sgAt_in (by omega) (by omega)];rfl:sgAt L (x:Int)=L[x])
  cases m with
  | zero =>
   have ex:(x:Int)=e7:=hm
   have b41:(L[x].toList == [41])=true:=by rw [← HG.out,ex];exact he
   have HE:Hid (((chainP L kk (i+3)).any fun p=>isW (sgAt L p) [40])=false):=(by rw [← HS.out];rfl:((chainP L kk (i+3)).any fun p=>isW (sgAt L p) [40])=false)
   subst ex
   clear hc HG HS hch
   generalize L[x]=t at hc' b41
   go_wp2
   go_ret
   exact ⟨by rw [HE.out];rfl,hB⟩
  | succ m =>
   obtain ⟨hp,hm2⟩:=hm
   have hpe:=par_ends hp
   have b41:(L[x].toList == [41])=false:=by rw [← HG.out];exact par_not41 hp
   have hq:=chainQ_ends m _ hm2 he0
   have HI:Hid ((isW (sgAt L (x:Int)) [40] || ((chainP L m (itemE L (x:Int))).any fun p=>isW (sgAt L p) [40]))=((chainP L kk (i+3)).any fun p=>isW (sgAt L p) [40])):=(by rw [← HS.out];rfl:(isW (sgAt L (x:Int)) [40] || ((chainP L m (itemE L (x:Int))).any fun p=>isW (sgAt L p) [40]))=((chainP L kk (i+3)).any fun p=>isW (sgAt L p) [40]))
   rw [HG.out] at HI
   clear HS HG hc
   cases h40:isW L[x] [40]
   ·have b40:(L[x].toList == [40])=false:=h40
    have HJ:Hid (((chainP L m (itemE L (x:Int))).any fun p=>isW (sgAt L p) [40])=((chainP L kk (i+3)).any fun p=>isW (sgAt L p) [40])):=(by rw [← HI.out,h40];rfl:((chainP L m (itemE L (x:Int))).any fun p=>isW (sgAt L p) [40])=((chainP L kk (i+3)).any fun p=>isW (sgAt L p) [40]))
    clear h40 HI
    generalize L[x]=t at hc' b41 b40
    go_wp2_with fail
    refine (itemEndS_any _ cap L (x:Int) _ (h.call hB) hL ⟨by omega,by omega⟩).mono ?_
    rintro e w4 ⟨rfl,hb4⟩
    have hB4:=bstep hB hb4
    obtain ⟨z,hz⟩:∃ z:Nat,itemE L (x:Int)=(z:Int):=⟨(itemE L (x:Int)).toNat,by omega⟩
    rw [hz] at HJ hm2 hpe ⊢
    go_wp2
    go_roundw
    case rel=>exact ⟨z,m,rfl,hm2,HJ.out,hB4⟩
    case measure=>simp [intOf];omega
   ·have b40:(L[x].toList == [40])=true:=h40
    have HE:Hid (((chainP L kk (i+3)).any fun p=>isW (sgAt L p) [40])=true):=(by rw [← HI.out,h40];rfl:((chainP L kk (i+3)).any fun p=>isW (sgAt L p) [40])=true)
    clear h40 HI
    generalize L[x]=t at hc' b41 b40
    go_wp2
    go_ret
    exact ⟨by rw [HE.out];rfl,hB⟩
end Go.Proofs.YtdgihicpjonjgaaGreatDoor
namespace Go.Proofs.YtdgihicpjonjgaaGreatDoor
open Go.RowKit
def kb (L:List ByteArray) (i:Int):Nat:=(L.length+1) * (i.toNat+1)
theorem kb_up {L:List ByteArray} {i j:Int} (h0:0≤i) (h:i < j):kb L i+(L.length+1)≤kb L j:=by
 unfold kb
 have h1:i.toNat+1+1≤j.toNat+1:=by omega
 have:=Nat.mul_le_mul_left (L.length+1) h1
 rw [Nat.mul_succ] at this
 exact this
theorem kb_mono {L:List ByteArray} {i j:Int} (h:i≤j):kb L i≤kb L j:=by
 unfold kb
 exact Nat.mul_le_mul_left _ (by omega)
theorem kb_top {L:List ByteArray} {i:Int} (hL:L.length≤2000) (h:i≤(L.length:Int)):kb L i≤4004001:=by
 unfold kb
 have h1:i.toNat+1≤2001:=by omega
 have h2:L.length+1≤2001:=by omega
 exact Nat.le_trans (Nat.mul_le_mul h2 h1) (by decide)
def Bnd (F o:Ot):Prop:=F.fr.length+o.fr.length≤2000000∧F.sc.length+o.sc.length≤2000000
theorem Bnd.left {F a b:Ot} (h:Bnd F (a.add b)):Bnd F a:=by
 unfold Bnd at h ⊢
 simp only [Ot.add,List.length_append] at h
 omega
theorem Bnd.right {F a b:Ot} (h:Bnd F (a.add b)):Bnd (F.plus a) b:=by
 unfold Bnd at h ⊢
 simp only [Ot.add,List.length_append] at h
 have h1:=putAll_len a.fr F.fr
 have h2:=putAll_len a.sc F.sc
 simp only [Ot.plus]
 omega
theorem Bnd.use {F:Ot} {K:Kn} {s:ByteArray} (h:Bnd F (useO K s)):F.fr.length≤2000000:=by unfold Bnd at h;omega
theorem Bnd.hide {F:Ot} {K:Kn} {s:ByteArray} (h:Bnd F (hideO K s)):F.sc.length≤2000000:=by unfold Bnd at h;omega
def Env (c:Nat) (w:World) (a:Option Addr) (L:List ByteArray) (vn vh:Value) (K:Kn) (F:Ot):Prop:=Fnd c w F∧ArgC c w a L∧Lst c w vn K.nm∧Lst c w vh K.hd
theorem Env.but {c:Nat} {w w':World} {a:Option Addr} {L:List ByteArray} {vn vh:Value} {K:Kn} {F G:Ot} (h:Env c w a L vn vh K F) (hb:But c w w') (hf:Fnd c w' G):Env c w' a L vn vh K G:=⟨hf,h.2.1.but hb,h.2.2.1.but hb,h.2.2.2.but hb⟩
theorem Env.call {c:Nat} {w w':World} {a:Option Addr} {L:List ByteArray} {vn vh:Value} {K:Kn} {F:Ot} (h:Env c w a L vn vh K F) (hb:Below w.heap.size w w'):Env c w' a L vn vh K F:=⟨h.1.call hb,h.2.1.call hb,h.2.2.1.call hb,h.2.2.2.call hb⟩
theorem Env.lt {c:Nat} {w:World} {a:Option Addr} {L:List ByteArray} {vn vh:Value} {K:Kn} {F:Ot} (h:Env c w a L vn vh K F):c < w.heap.size:=h.1.lt
def ItemC (a:Option Addr) (cap:Nat) (L:List ByteArray) (c n:Nat):Prop:=∀ (i:Int) (K:Kn) (F:Ot) (vn vh:Value) (w:World),Env c w a L vn vh K F→ItV L i→2 * farN L i+1≤n→K.nm.length≤kb L i→K.hd.length≤kb L i→Bnd F (wk L n 0 false i K) →
 Calls Tryz.prog 61 #[.pointer (some ⟨c,0,none⟩),.slice a L.length cap,.int .i64 i,.agg #[vn,vh,.bool K.lp]] w fun e w'=>e=.returned (.tuple #[])∧Fnd c w' (F.plus (wk L n 0 false i K))∧But c w w'
def BlockC (a:Option Addr) (cap:Nat) (L:List ByteArray) (c n:Nat):Prop:=∀ (v:Bool) (i e:Int) (k:Nat) (K:Kn) (F:Ot) (vn vh:Value) (w:World),Env c w a L vn vh K F→chainD L k i e→endB L e→0≤e→e≤(L.length:Int)→2 * farN L i+2≤n→K.nm.length+(L.length+1)≤kb L i→K.hd.length+(L.length+1)≤kb L i→Bnd F (wk L n 1 v i K) →
 Calls Tryz.prog 36 #[.pointer (some ⟨c,0,none⟩),.slice a L.length cap,.int .i64 i,.agg #[vn,vh,.bool K.lp],.bool v] w fun e w'=>e=.returned (.tuple #[])∧Fnd c w' (F.plus (wk L n 1 v i K))∧But c w w'
theorem far_lt {L:List ByteArray} {i j:Int} (h0:0≤i) (h:i < j) (hj:j≤(L.length:Int)+1):farN L j+1≤farN L i:=by
 unfold farN
 rw [if_neg (by omega),if_neg (by omega)]
 omega
theorem far_le {L:List ByteArray} {i j:Int} (h0:0≤i) (h:i≤j):farN L j≤farN L i:=by
 unfold farN
 rw [if_neg (by omega),if_neg (by omega)]
 omega
set_option maxHeartbeats 2000000 in
theorem l5Rest_any {a:Option Addr} {cap:Nat} {L:List ByteArray} {c n:Nat} (hIt:ItemC a cap L c n) (hL:L.length≤2000) (i e:Int) (k:Nat) (K:Kn) (F:Ot) (vn vh:Value) (w:World) (hE:Env c w a L vn vh K F) (hch:chainV L k i e) (he0:0≤e) (he1:e < (L.length:Int)) (he:isW (sgAt L e) [41]=true)
  (hn:2 * farN L i+1≤n) (hkn:K.nm.length≤kb L i) (hkh:K.hd.length≤kb L i) (hb:Bnd F (outs (fun p=>wk L n 0 false p K) (chainP L k i))) :
  Calls Tryz.prog 111 #[.pointer (some ⟨c,0,none⟩),.slice a L.length cap,.int .i64 i,.agg #[vn,vh,.bool K.lp]] w fun e w'=>e=.returned (.tuple #[])∧Fnd c w' (F.plus (outs (fun p=>wk L n 0 false p K) (chainP L k i)))∧But c w w':=by
 have hce:=chainV_ends k i hch he0
 have hcz:=hE.lt
 have hT0:=tri0 w vn vh (.bool K.lp) 58
 have hE0:=hE.call (balloc (Below.refl w.heap.size w) (.cells #[vn,vh,.bool K.lp] 58))
 have hB0:But c w (w.alloc (.cells #[vn,vh,.bool K.lp] 58)):=(But.refl c w).alloc _
 go_enter Tryz.func111,Tryz.ntmps111
 go_wp2
 go_loopw [2] (fun v2 wr=>∃ (x m:Nat) (G:Ot),v2=.int .i64 (x:Int)∧i≤(x:Int)∧chainV L m (x:Int) e∧Env c wr a L vn vh K G∧Tri w.heap.size vn vh (.bool K.lp) wr∧But c w wr∧Hid (G.plus (outs (fun p=>wk L n 0 false p K) (chainP L m (x:Int)))=F.plus (outs (fun p=>wk L n 0 false p K) (chainP L k i)))∧Hid (Bnd G (outs (fun p=>wk L n 0 false p K) (chainP L m (x:Int))))) (fun v2 _=>e.toNat - (intOf v2).toNat)
 case atStart =>
  obtain ⟨q,hq⟩:∃ q:Nat,i=(q:Int):=⟨i.toNat,by omega⟩
  subst hq
  exact ⟨q,k,F,rfl,Int.le_refl _,hch,hE0,hT0,hB0,rfl,hb⟩
 case round =>
  obtain ⟨x,m,G,rfl,hix,hm,hEr,hTr,hBr,HP,HB⟩:=hrel
  have hxe:=chainV_ends m _ hm he0
  have hx:x < L.length:=by omega
  obtain ⟨sb,off,rfl,hc,_,_,_⟩:=hEr.2.1.at x hx
  cases m with
  | zero =>
   have ex:(x:Int)=e:=hm
   have b41:((sgAt L (x:Int)).toList == [41])=true:=by rw [ex];exact he
   have HF:Hid (Fnd c wr (F.plus (outs (fun p=>wk L n 0 false p K) (chainP L k i)))):=(by rw [← HP.out];show Fnd c wr (G.plus Ot.none);rw [Ot.plus_none];exact hEr.1:Fnd c wr (F.plus (outs (fun p=>wk L n 0 false p K) (chainP L k i))))
   clear HP HB ex
   generalize sgAt L (x:Int)=t at hc b41
   go_wp2
   go_end0
   exact ⟨rfl,HF.out,hBr⟩
  | succ m =>
   obtain ⟨hv,hm2⟩:=hm
   have hve:=hv.ends
   have b41:((sgAt L (x:Int)).toList == [41])=false:=hv.not41
   have hb2:=HB.out
   have hfar:=far_le (L:=L) (by omega:0≤i) hix
   have hk1:=kb_mono (L:=L) hix
   have hq:=chainV_ends m _ hm2 he0
   obtain ⟨t0,t1,t2,tz⟩:=id hTr
   have HC:Hid (Calls Tryz.prog 61 #[.pointer (some ⟨c,0,none⟩),.slice (some ⟨sb,off,none⟩) L.length cap,.int .i64 (x:Int),.agg #[vn,vh,.bool K.lp]] wr fun e w'=>e=.returned (.tuple #[])∧Fnd c w' (G.plus (wk L n 0 false (x:Int) K))∧But c wr w'):=hIt (x:Int) K G vn vh wr hEr hv (by omega) (by omega) (by omega) hb2.left
   have HBN:Hid (Bnd (G.plus (wk L n 0 false (x:Int) K)) (outs (fun p=>wk L n 0 false p K) (chainP L m (itemE L (x:Int))))):=hb2.right
   have HPN:Hid ((G.plus (wk L n 0 false (x:Int) K)).plus (outs (fun p=>wk L n 0 false p K) (chainP L m (itemE L (x:Int))))=F.plus (outs (fun p=>wk L n 0 false p K) (chainP L k i))):=(by rw [← HP.out,← Ot.plus_add];rfl:(G.plus (wk L n 0 false (x:Int) K)).plus (outs (fun p=>wk L n 0 false p K) (chainP L m (itemE L (x:Int))))=F.plus (outs (fun p=>wk L n 0 false p K) (chainP L k i)))
   clear HP HB hb2 hb
   generalize wk L n 0 false (x:Int) K=o1 at HC HBN HPN
   generalize sgAt L (x:Int)=t at hc b41
   go_wp2_with fail
   refine HC.out.mono ?_
   rintro e w2 ⟨rfl,hF2,hb2⟩
   have hE2:=hEr.but hb2 hF2
   have hT2:=hTr.but hb2 (by omega)
   have hB2:=hBr.trans hb2
   clear HC
   go_wp2_with fail
   refine (itemEndS_any _ cap L (x:Int) _ hE2.2.1.arg (by omega) ⟨by omega,by omega⟩).mono ?_
   rintro e w3 ⟨rfl,hb3⟩
   have hE3:=hE2.call hb3
   have hT3:=hT2.call hb3
   have hB3:=hB2.trans (But.of_below hb3)
   obtain ⟨z,hz⟩:∃ z:Nat,itemE L (x:Int)=(z:Int):=⟨(itemE L (x:Int)).toNat,by omega⟩
   rw [hz] at HBN HPN hm2 hve ⊢
   go_wp2
   go_roundw
   case rel=>exact ⟨z,m,_,rfl,by omega,hm2,hE3,hT3,hB3,HPN.out,HBN.out⟩
   case measure=>simp [intOf];omega
end Go.Proofs.YtdgihicpjonjgaaGreatDoor
namespace Go.Proofs.YtdgihicpjonjgaaGreatDoor
open Go.RowKit
theorem OwnN.but {c B:Nat} {w w':World} {v:Value} {X:List ByteArray} (h:OwnN w B v X) (hb:But c w w') (hc:c < B):OwnN w' B v X:=by
 refine ⟨⟨h.1.1,?_⟩,h.2⟩
 rcases h.1.2 with hn | ⟨g,cap,cur,rfl,hB,hg,rest⟩
 ·exact .inl hn
 ·have hlt:g < w.heap.size:=(Array.getElem?_eq_some_iff.1 hg).1
  exact .inr ⟨g,cap,cur,rfl,hB,(hb.2.2.2.2 g hlt (by omega)).trans hg,rest⟩
theorem dcl_flat (L:List ByteArray) (hid:Bool) {e:Int}:∀ k i,chainD L k i e→dcl L hid k i=(chainP L k i).flatMap (pieceD L hid)
 | 0,_,_=>rfl
 | k+1,i,h=>by
  show pieceD L hid i++dcl L hid k (fm L 1 i)=(i :: chainP L k (itemE L i)).flatMap (pieceD L hid)
  rw [List.flatMap_cons,deed_item h.1,dcl_flat L hid k _ h.2]
theorem dcl_len (L:List ByteArray) (hid:Bool) {e:Int}:∀ k i,chainD L k i e→0≤e→((dcl L hid k i).length:Int)≤e - i
 | 0,i,h,he=>by
  have:i=e:=h
  show ((0:Nat):Int)≤e - i
  omega
 | k+1,i,h,he=>by
  have h1:=dcl_len L hid k _ h.2 he
  have h2:=piece_len (L:=L) (i:=i) hid h.1
  have h3:=deed_long h.1
  have h4:=chain_ends k _ h.2 he
  show ((pieceD L hid i++dcl L hid k (fm L 1 i)).length:Int)≤e - i
  rw [List.length_append]
  omega
theorem slc_mem {L:List ByteArray} {a b:Int} {s:ByteArray} (h:s∈slc L a b):s∈L:=List.mem_of_mem_drop (List.mem_of_mem_take h)
theorem sgAt_mem {L:List ByteArray} {i:Int} (h0:0≤i) (h1:i < (L.length:Int)):sgAt L i∈L:=by
 rw [sgAt_in h0 h1]
 exact List.getElem_mem _
theorem piece_mem {L:List ByteArray} {hid:Bool} {i:Int} (h:fm L 1 i≠-1) {s:ByteArray} (hs:s∈pieceD L hid i):s∈L:=by
 unfold pieceD at hs
 have hl:=deed_long h
 split at hs
 ·split at hs
  ·exact slc_mem hs
  ·cases hs
 ·split at hs
  ·exact slc_mem hs
  ·split at hs
   ·rw [List.mem_singleton] at hs
    rw [hs]
    exact sgAt_mem (by omega) (by omega)
   ·split at hs
    ·exact slc_mem hs
    ·cases hs
theorem dcl_mem {L:List ByteArray} {hid:Bool} {e:Int}:∀ k i,chainD L k i e→∀ s∈dcl L hid k i,s∈L
 | 0,_,_,s,hs=>by cases hs
 | k+1,i,h,s,hs=>by
  rcases List.mem_append.mp hs with hs | hs
  ·exact piece_mem h.1 hs
  ·exact dcl_mem k _ h.2 s hs
theorem size_mem {w:World} {a:Option Addr} {L:List ByteArray} (h:ArgT w a L) {s:ByteArray} (hs:s∈L):s.size≤maxLen:=by
 obtain ⟨i,hi,rfl⟩:=List.getElem_of_mem hs
 obtain ⟨_,_,_,_,_,hm⟩:=h i hi
 exact hm
theorem sizes_mem {w:World} {a:Option Addr} {L X:List ByteArray} (h:ArgT w a L) (hs:∀ s∈X,s∈L):∀ i (h:i < X.length),X[i].size≤maxLen:=fun _ hi=>size_mem h (hs _ (List.getElem_mem hi))
theorem plus_bad (F:Ot) (b:Bool):F.plus ⟨[],[],b⟩=⟨F.fr,F.sc,F.bad || b⟩:=by simp [Ot.plus,putAll]
theorem OwnN.news {w:World} {B g n cap:Nat} {X:List ByteArray} (h:OwnN w B (.slice (some ⟨g,0,none⟩) n cap) X):∀ j u,(X.map Value.string)[j]?=some u→w.cell? ((⟨g,0,none⟩:Addr).add j)=some u:=h.cells
theorem news_one (X:List ByteArray):∀ u∈X.map Value.string,u.oneCell'=true:=fun u hu=>by
 obtain ⟨z,_,rfl⟩:=List.mem_map.1 hu
 rfl
theorem But.grown {c:Nat} {w W W':World} {row:Option Nat} (h:But c w W) (hg:W.grownBy W' row) (hr:∀ k,row=some k→w.heap.size≤k):But c w W' :=
 ⟨hg.os.trans h.1,hg.tape.trans h.2.1,hg.output.trans h.2.2.1,Nat.le_trans h.2.2.2.1 hg.size,fun k hk hc=>(hg.block k (Nat.lt_of_lt_of_le hk h.2.2.2.1) (fun e=>by have:=hr k e.symm;omega)).trans (h.2.2.2.2 k hk hc)⟩
theorem Fnd.later {c:Nat} {w W:World} {F:Ot} {b:Bool} (h:Fnd c w F) (hb:But c w W) (h0:W.cell? ⟨c,0,none⟩=w.cell? ⟨c,0,none⟩) (h1:W.cell? ⟨c,1,none⟩=w.cell? ⟨c,1,none⟩) (h2:W.cell? ⟨c,2,none⟩=some (.bool b)) (hf:∀ o,W.frozen? ⟨c,o,none⟩=w.frozen? ⟨c,o,none⟩):Fnd c W ⟨F.fr,F.sc,b⟩:=by
 obtain ⟨vf,vs,c0,c1,c2,l0,l1,f0,f1,f2,hz⟩:=h
 exact ⟨vf,vs,h0.trans c0,h1.trans c1,h2,l0.but hb,l1.but hb,(hf 0).trans f0,(hf 1).trans f1,(hf 2).trans f2,Nat.lt_of_lt_of_le hz hb.2.2.2.1⟩
def Mrk (c:Nat) (w W:World) (b:Bool):Prop:=W.cell? ⟨c,0,none⟩=w.cell? ⟨c,0,none⟩∧W.cell? ⟨c,1,none⟩=w.cell? ⟨c,1,none⟩∧W.cell? ⟨c,2,none⟩=some (.bool b)∧∀ o,W.frozen? ⟨c,o,none⟩=w.frozen? ⟨c,o,none⟩
theorem Mrk.same {c:Nat} {w W W':World} {b:Bool} (h:Mrk c w W b) (hs:W'.heap[c]?=W.heap[c]?):Mrk c w W' b :=
 ⟨(World.cell?_of_block (w:=W) (a:=⟨c,0,none⟩) hs).trans h.1,(World.cell?_of_block (w:=W) (a:=⟨c,1,none⟩) hs).trans h.2.1,(World.cell?_of_block (w:=W) (a:=⟨c,2,none⟩) hs).trans h.2.2.1,fun o=>(World.frozen?_of_block (w:=W) (a:=⟨c,o,none⟩) hs).trans (h.2.2.2 o)⟩
theorem Fnd.mrk {c:Nat} {w W:World} {F:Ot} {b:Bool} (h:Fnd c w F) (hb:But c w W) (hm:Mrk c w W b):Fnd c W ⟨F.fr,F.sc,b⟩:=h.later hb hm.1 hm.2.1 hm.2.2.1 hm.2.2.2
theorem mrk_set {c:Nat} {w W:World} {F:Ot} (h:Fnd c w F) (hs:W.heap[c]?=w.heap[c]?) (b:Bool):Mrk c w (W.setCell ⟨c,2,none⟩ (.bool b)) b:=by
 have hk:∀ o,W.cell? ⟨c,o,none⟩=w.cell? ⟨c,o,none⟩:=fun o=>World.cell?_of_block (w:=w) (a:=⟨c,o,none⟩) hs
 have hkf:∀ o,W.frozen? ⟨c,o,none⟩=w.frozen? ⟨c,o,none⟩:=fun o=>World.frozen?_of_block (w:=w) (a:=⟨c,o,none⟩) hs
 obtain ⟨vf,vs,c0,c1,c2,_⟩:=h
 exact ⟨(other_cell W _ (by decide)).trans (hk 0),(other_cell W _ (by decide)).trans (hk 1),World.cell?_setCell_same W _ _ ((hk 2).trans c2),fun o=>by rw [World.frozen?_setCell];exact hkf o⟩
def Box (B:Nat) (v0 v1 v2:Value) (x:World):Prop:=Tri B v0 v1 v2 x∧x.frozen? ⟨B,0,none⟩=false∧x.frozen? ⟨B,1,none⟩=false∧x.frozen? ⟨B,2,none⟩=false
theorem box0 (w:World) (v0 v1 v2:Value) (T:TypeId):Box w.heap.size v0 v1 v2 (w.alloc (.cells #[v0,v1,v2] T)):=by
 obtain ⟨_,_,_,f0,f1,f2,_⟩:=own0 w v0 v1 v2 T
 exact ⟨tri0 w v0 v1 v2 T,f0,f1,f2⟩
theorem Box.same {B:Nat} {v0 v1 v2:Value} {W W':World} (h:Box B v0 v1 v2 W) (hs:W'.heap[B]?=W.heap[B]?) (hz:W.heap.size≤W'.heap.size):Box B v0 v1 v2 W':=by
 obtain ⟨⟨h0,h1,h2,hB⟩,f0,f1,f2⟩:=h
 exact ⟨⟨(World.cell?_of_block (w:=W) (a:=⟨B,0,none⟩) hs).trans h0,(World.cell?_of_block (w:=W) (a:=⟨B,1,none⟩) hs).trans h1,(World.cell?_of_block (w:=W) (a:=⟨B,2,none⟩) hs).trans h2,Nat.lt_of_lt_of_le hB hz⟩,(World.frozen?_of_block (w:=W) (a:=⟨B,0,none⟩) hs).trans f0,(World.frozen?_of_block (w:=W) (a:=⟨B,1,none⟩) hs).trans f1,(World.frozen?_of_block (w:=W) (a:=⟨B,2,none⟩) hs).trans f2⟩
theorem Box.lt {B:Nat} {v0 v1 v2:Value} {W:World} (h:Box B v0 v1 v2 W):B < W.heap.size:=h.1.2.2.2
theorem Box.call {B:Nat} {v0 v1 v2:Value} {W W':World} (h:Box B v0 v1 v2 W) (hb:Below W.heap.size W W'):Box B v0 v1 v2 W':=h.same (hb.block B h.lt) hb.size
theorem Box.but {B c:Nat} {v0 v1 v2:Value} {W W':World} (h:Box B v0 v1 v2 W) (hb:But c W W') (hn:B≠c):Box B v0 v1 v2 W':=h.same (hb.2.2.2.2 B h.lt hn) hb.2.2.2.1
theorem Box.grown {B:Nat} {v0 v1 v2:Value} {W W':World} {row:Option Nat} (h:Box B v0 v1 v2 W) (hg:W.grownBy W' row) (hr:row≠some B):Box B v0 v1 v2 W':=h.same (hg.block B h.lt (fun e=>hr e.symm)) hg.size
theorem Box.set0 {B:Nat} {v0 v1 v2:Value} {W:World} (h:Box B v0 v1 v2 W) (u:Value):Box B u v1 v2 (W.setCell ⟨B,0,none⟩ u):=by
 obtain ⟨⟨h0,h1,h2,hB⟩,f0,f1,f2⟩:=h
 exact ⟨⟨World.cell?_setCell_same W _ _ h0,(other_cell W u (by decide)).trans h1,(other_cell W u (by decide)).trans h2,by simpa [World.setCell] using hB⟩,by rw [World.frozen?_setCell];exact f0,by rw [World.frozen?_setCell];exact f1,by rw [World.frozen?_setCell];exact f2⟩
theorem Box.set1 {B:Nat} {v0 v1 v2:Value} {W:World} (h:Box B v0 v1 v2 W) (u:Value):Box B v0 u v2 (W.setCell ⟨B,1,none⟩ u):=by
 obtain ⟨⟨h0,h1,h2,hB⟩,f0,f1,f2⟩:=h
 exact ⟨⟨(other_cell W u (by decide)).trans h0,World.cell?_setCell_same W _ _ h1,(other_cell W u (by decide)).trans h2,by simpa [World.setCell] using hB⟩,by rw [World.frozen?_setCell];exact f0,by rw [World.frozen?_setCell];exact f1,by rw [World.frozen?_setCell];exact f2⟩
theorem Box.set2 {B:Nat} {v0 v1 v2:Value} {W:World} (h:Box B v0 v1 v2 W) (u:Value):Box B v0 v1 u (W.setCell ⟨B,2,none⟩ u):=by
 obtain ⟨⟨h0,h1,h2,hB⟩,f0,f1,f2⟩:=h
 exact ⟨⟨(other_cell W u (by decide)).trans h0,(other_cell W u (by decide)).trans h1,World.cell?_setCell_same W _ _ h2,by simpa [World.setCell] using hB⟩,by rw [World.frozen?_setCell];exact f0,by rw [World.frozen?_setCell];exact f1,by rw [World.frozen?_setCell];exact f2⟩
theorem OwnN.set {w:World} {B:Nat} {v:Value} {X:List ByteArray} (h:OwnN w B v X) {p:Addr} (u:Value) (hp:p.block < B):OwnN (w.setCell p u) B v X :=
 h.grown (row:=some p.block) ⟨rfl,rfl,rfl,by simp [World.setCell],fun k _ hk=>Below.heap_setCell w p u k (fun e=>hk (by rw [e]))⟩ (fun e=>by
  have:=(World.ownsRow.lt h.1 p.block e).1
  omega)
set_option maxRecDepth 100000 in
set_option maxHeartbeats 8000000 in
theorem l5Block_any {a:Option Addr} {cap:Nat} {L:List ByteArray} {c n:Nat} (hIt:ItemC a cap L c n) (hL:L.length≤2000):BlockC a cap L c (n+1):=fun v i e k K F vn vh w hE hch hend he0 he1 hn hkn hkh hb=>by
 obtain ⟨i0,hi,hz0,hz1,hz2⟩:=info_parts Tryz.infoS
 have hce:=chain_ends k i hch he0
 have hcv:=(chain_deeds k i hch).1
 have hplc:=plc_chain hcv he0 he1 hend
 have hX:=dcl_len L false k i hch he0
 have hY:=dcl_len L true k i hch he0
 have hXm:=sizes_mem hE.2.1.arg (dcl_mem (hid:=false) k i hch)
 have hYm:=sizes_mem hE.2.1.arg (dcl_mem (hid:=true) k i hch)
 have hcz:=hE.lt
 have HW:Hid (F.plus (wk L (n+1) 1 v i K)=(F.plus ⟨[],[],twiceB (dcl L false k i) || twiceB (dcl L true k i)⟩).plus (blk L (fun p=>wk L n 0 false p (addH (addN K (dcl L false k i)) (dcl L true k i))) v (chainP L k i))):=by
  show F.plus (blockO L (wk L n) v i K)=_
  unfold blockO
  rw [hplc,← dcl_flat L false k i hch,← dcl_flat L true k i hch,Ot.plus_add]
 have HBD:Hid (Bnd (F.plus ⟨[],[],twiceB (dcl L false k i) || twiceB (dcl L true k i)⟩) (blk L (fun p=>wk L n 0 false p (addH (addN K (dcl L false k i)) (dcl L true k i))) v (chainP L k i))):=by
  have hb':Bnd F (blockO L (wk L n) v i K):=hb
  unfold blockO at hb'
  rw [hplc,← dcl_flat L false k i hch,← dcl_flat L true k i hch] at hb'
  exact hb'.right
 clear hb
 have hB0b:=balloc (Below.refl w.heap.size w) (.cells #[vn,vh,.bool K.lp] 58)
 have hE0:=hE.call hB0b
 have hX0:=box0 w vn vh (.bool K.lp) 58
 go_enter Tryz.func36,Tryz.ntmps36
 go_wp2_with fail
 refine (l5Declared_false a cap L k i e _ hE0.2.1.arg (by omega) hce.1 he1 he0 hend hch).mono ?_
 rintro r w1 ⟨v10,rfl,hN1,hb1⟩
 have hE1:=hE0.call hb1
 have hX1:=hX0.call hb1
 have hbw1:=bstep hB0b hb1
 go_wp2_with fail
 refine (l5Declared_true a cap L k i e _ hE1.2.1.arg (by omega) hce.1 he1 he0 hend hch).mono ?_
 rintro r w2 ⟨v11,rfl,hM2,hb2⟩
 have hE2:=hE1.call hb2
 have hX2:=hX1.call hb2
 have hbw2:=bstep hbw1 hb2
 have hN2:=hN1.call hb2
 have hN2':OwnN w2 (w.heap.size+1) v10 (dcl L false k i):=⟨ownT_mono hN2.1 (by simp),hN2.2⟩
 have hM2':OwnN w2 (w.heap.size+1) v11 (dcl L true k i):=⟨ownT_mono hM2.1 hX1.lt,hM2.2⟩
 clear hN1 hM2 hN2 hb1 hb2 hE0 hE1 hX0 hX1 hbw1
 generalize dcl L false k i=X at HW HBD hN2' hX hXm
 generalize dcl L true k i=Y at HW HBD hM2' hY hYm
 obtain ⟨g1,cp1,rfl⟩:=hN2'.shape
 obtain ⟨g2,cp2,rfl⟩:=hM2'.shape
 have hLX:=hN2'.lst (c:=c) (by omega) hXm
 have hLY:=hM2'.lst (c:=c) (by omega) hYm
 go_upto_region 3 with fail
 go_cut [31] (fun _ wc=>But c w2 wc∧Mrk c w wc (F.bad || (twiceB X || twiceB Y)))
 case first =>
  obtain ⟨vf,vs,c0,c1,c2,l0,l1,f0,f1,f2,hz⟩:=id hE2.1
  have HFIN:Hid (∀ (W:World) (b:Bool),Below w2.heap.size w2 W→But c w2 (W.setCell ⟨c,2,none⟩ (.bool b))∧Mrk c w (W.setCell ⟨c,2,none⟩ (.bool b)) b):=fun W b hB=>⟨(But.of_below hB).setCur 2 _,mrk_set hE.1 ((hB.block c hz).trans (hbw2.block c hcz)) b⟩
  have hkc:∀ W:World,Below w2.heap.size w2 W→W.cell? ⟨c,2,none⟩=some (.bool F.bad)∧W.frozen? ⟨c,2,none⟩=false:=fun W hB=>⟨(hB.cell (p:=⟨c,2,none⟩) hz).trans c2,(hB.frozen (p:=⟨c,2,none⟩) hz).trans f2⟩
  have HKC:Hid (∀ W:World,Below w2.heap.size w2 W→W.cell? ⟨c,2,none⟩=some (.bool F.bad)∧W.frozen? ⟨c,2,none⟩=false):=hkc
  clear hkc
  cases hFb:F.bad
  ·rw [hFb] at c2
   cases ht1:twiceB X
   ·cases ht2:twiceB Y
    ·have H1:Hid (twiceB X=false):=ht1
     have H2:Hid (twiceB Y=false):=ht2
     have HB0:Hid (F.bad=false):=hFb
     clear ht1 ht2 hFb
     go_wp2_with fail
     refine (l5Twice_any c _ X _ hLX (by omega)).mono ?_
     rintro r w3 ⟨rfl,hb3⟩
     rw [H1.out]
     obtain ⟨k3,z3⟩:=HKC.out w3 hb3
     rw [HB0.out] at k3
     go_wp2_with fail
     refine (l5Twice_any c _ Y _ (hLY.call hb3) (by omega)).mono ?_
     rintro r w4 ⟨rfl,hb4⟩
     rw [H2.out]
     have hb34:=bstep hb3 hb4
     obtain ⟨k4,z4⟩:=HKC.out w4 hb34
     rw [HB0.out] at k4
     go_wp2
     go_meet
     rw [HB0.out,H1.out,H2.out]
     exact HFIN.out w4 false hb34
    ·have H1:Hid (twiceB X=false):=ht1
     have H2:Hid (twiceB Y=true):=ht2
     have HB0:Hid (F.bad=false):=hFb
     clear ht1 ht2 hFb
     go_wp2_with fail
     refine (l5Twice_any c _ X _ hLX (by omega)).mono ?_
     rintro r w3 ⟨rfl,hb3⟩
     rw [H1.out]
     obtain ⟨k3,z3⟩:=HKC.out w3 hb3
     rw [HB0.out] at k3
     go_wp2_with fail
     refine (l5Twice_any c _ Y _ (hLY.call hb3) (by omega)).mono ?_
     rintro r w4 ⟨rfl,hb4⟩
     rw [H2.out]
     have hb34:=bstep hb3 hb4
     obtain ⟨k4,z4⟩:=HKC.out w4 hb34
     rw [HB0.out] at k4
     go_wp2
     go_meet
     rw [HB0.out,H1.out,H2.out]
     exact HFIN.out w4 true hb34
   ·have H1:Hid (twiceB X=true):=ht1
    have HB0:Hid (F.bad=false):=hFb
    clear ht1 hFb
    go_wp2_with fail
    refine (l5Twice_any c _ X _ hLX (by omega)).mono ?_
    rintro r w3 ⟨rfl,hb3⟩
    rw [H1.out]
    obtain ⟨k3,z3⟩:=HKC.out w3 hb3
    rw [HB0.out] at k3
    go_wp2
    go_meet
    rw [HB0.out,H1.out]
    exact HFIN.out w3 true hb3
  ·rw [hFb] at c2
   have HB0:Hid (F.bad=true):=hFb
   clear hFb
   go_wp2
   go_meet
   rw [HB0.out]
   exact HFIN.out w2 true (Below.refl _ _)
 case rest =>
 obtain ⟨hbc,hMk⟩:=hcut
 have hXc:=hX2.but hbc (by omega)
 have hNc:=hN2'.but hbc (by omega)
 have hMc:=hM2'.but hbc (by omega)
 have hg2c:=hMc.lo
 have hBc:But c w wc:=(But.of_below hbw2).trans hbc
 clear hN2' hM2' hX2 hE2 hbc hLX hLY
 have hwc:w.heap.size < wc.heap.size:=hXc.lt
 obtain ⟨t0,t1,t2,_⟩:=hXc.1
 have hkl:K.nm.length≤4004001:=by have:=kb_top (L:=L) (i:=i) hL (by omega);omega
 have hkhl:K.hd.length≤4004001:=by have:=kb_top (L:=L) (i:=i) hL (by omega);omega
 go_wp2_with fail
 refine (l1Texts_any c vn K.nm wc (hE.2.2.1.but hBc) (by omega)).mono ?_
 rintro r w3 ⟨v36,rfl,hQ3,hb3⟩
 have hN3:=hNc.call hb3
 have hM3:=hMc.call hb3
 have hX3:=hXc.call hb3
 have hB3:=hBc.trans (But.of_below hb3)
 have hMk3:=hMk.same (hb3.block c (by omega))
 have hz3:=hb3.size
 obtain ⟨g3,cp3,rfl⟩:=hQ3.shape
 have hl3:=hQ3.lo
 have hcc1:=hN3.news
 have hcc2:=news_one X
 have hc0:(X.map Value.string).length=X.length * 1:=by simp
 have hc3:K.nm.length+X.length≤maxLen:=by unfold maxLen;omega
 have hc4:(K.nm.length+X.length) * 16≤140737488355328:=by omega
 have hc5:wc.heap.size≤w3.heap.size:=hz3
 clear hNc hMc hXc hMk hb3 t0 t1 t2
 go_wp2_with (at_builtin;refine wpList_append_own _ rfl _ _ 22 rfl wc.heap.size 9 i0 (.string ⟨#[]⟩) 1 16 Tryz.underlying22 hi hz0 hz1 hz2 rfl (by decide) _ _ _ rfl hQ3.1 ⟨g1,0,none⟩ X.length cp1 (X.map Value.string) rfl hc0 hcc1 hcc2 hc3 hc4 hc5 ?_)
 intro v38 w4 hown' hgrow hnil
 have hQ4:OwnN w4 wc.heap.size v38 (K.nm++X):=by
  refine ⟨?_,fun er=>?_⟩
  ·unfold OwnT
   rw [List.map_append,List.length_append]
   exact hown'
  ·simp [er] at hnil
 have hg34:∀ q,(Value.slice (some ⟨g3,0,none⟩) K.nm.length cp3).ownBlock=some q→w.heap.size≤q:=fun q hq=>by simp [Value.ownBlock] at hq;omega
 have hB4:=hB3.grown hgrow hg34
 have hX4:=hX3.grown hgrow (fun e=>by simp [Value.ownBlock] at e;omega)
 have hM4:=hM3.grown hgrow (fun e=>by simp [Value.ownBlock] at e;omega)
 have hMk4:=hMk3.same (hgrow.block c (by omega) (fun e=>by simp [Value.ownBlock] at e;omega))
 have hz4:=hgrow.size
 clear hown' hgrow hnil hX3 hM3 hMk3 hQ3 hN3 hcc1 hcc2 hc0 hc3 hc4 hc5 hg34
 obtain ⟨Z1,hZ1⟩:∃ Z,Z=K.nm++X:=⟨_,rfl⟩
 rw [← hZ1] at hQ4
 have HZ1:Hid (Z1=K.nm++X):=hZ1
 clear hZ1
 obtain ⟨g4,cp4,rfl⟩:=hQ4.shape
 have hl4:=hQ4.lo
 obtain ⟨w5,hw5⟩:∃ w5,w5=w4.setCell ⟨w.heap.size,0,none⟩ (.slice (some ⟨g4,0,none⟩) Z1.length cp4):=⟨_,rfl⟩
 have hz5:w4.heap.size≤w5.heap.size:=by rw [hw5];simp [World.setCell]
 have hz5b:w5.heap.size≤w4.heap.size:=by rw [hw5];simp [World.setCell]
 have hB5:But c w w5:=by rw [hw5];exact hB4.setNew (p:=⟨w.heap.size,0,none⟩) _ (Nat.le_refl _)
 have hX5:Box w.heap.size (.slice (some ⟨g4,0,none⟩) Z1.length cp4) vh (.bool K.lp) w5:=by rw [hw5];exact hX4.set0 _
 have hQ5:OwnN w5 wc.heap.size (.slice (some ⟨g4,0,none⟩) Z1.length cp4) Z1:=by rw [hw5];exact hQ4.set (p:=⟨w.heap.size,0,none⟩) _ hwc
 have hM5:OwnN w5 (w.heap.size+1) (.slice (some ⟨g2,0,none⟩) Y.length cp2) Y:=by rw [hw5];exact hM4.set (p:=⟨w.heap.size,0,none⟩) _ (Nat.lt_succ_self _)
 have hMk5:Mrk c w w5 (F.bad || (twiceB X || twiceB Y)):=by rw [hw5];exact hMk4.same (Below.heap_setCell w4 ⟨w.heap.size,0,none⟩ _ c (by simp;omega))
 obtain ⟨⟨x0,x1,x2,_⟩,xf0,xf1,xf2⟩:=id hX4
 go_upto_region 5 with fail
 rw [← hw5]
 clear hw5 x0 x1 x2 xf0 xf1 xf2 hX4 hM4 hMk4 hQ4 hB4
 obtain ⟨x0,x1,x2,_⟩:=hX5.1
 go_wp2_with fail
 refine (l1Texts_any c vh K.hd w5 (hE.2.2.2.but hB5) (by omega)).mono ?_
 rintro r w6 ⟨v42,rfl,hR6,hb6⟩
 have hM6:=hM5.call hb6
 have hX6:=hX5.call hb6
 have hQ6:=hQ5.call hb6
 have hB6:=hB5.trans (But.of_below hb6)
 have hMk6:=hMk5.same (hb6.block c (by omega))
 have hz6:=hb6.size
 obtain ⟨g6,cp6,rfl⟩:=hR6.shape
 have hl6:=hR6.lo
 have hcc1:=hM6.news
 have hcc2:=news_one Y
 have hc0:(Y.map Value.string).length=Y.length * 1:=by simp
 have hc3:K.hd.length+Y.length≤maxLen:=by unfold maxLen;omega
 have hc4:(K.hd.length+Y.length) * 16≤140737488355328:=by omega
 have hc5:w5.heap.size≤w6.heap.size:=hz6
 clear hM5 hX5 hMk5 hb6 x0 x1 x2 hQ5
 go_wp2_with (at_builtin;refine wpList_append_own _ rfl _ _ 22 rfl w5.heap.size 9 i0 (.string ⟨#[]⟩) 1 16 Tryz.underlying22 hi hz0 hz1 hz2 rfl (by decide) _ _ _ rfl hR6.1 ⟨g2,0,none⟩ Y.length cp2 (Y.map Value.string) rfl hc0 hcc1 hcc2 hc3 hc4 hc5 ?_)
 intro v44 w7 hown' hgrow hnil
 have hR7:OwnN w7 w5.heap.size v44 (K.hd++Y):=by
  refine ⟨?_,fun er=>?_⟩
  ·unfold OwnT
   rw [List.map_append,List.length_append]
   exact hown'
  ·simp [er] at hnil
 have hg67:∀ q,(Value.slice (some ⟨g6,0,none⟩) K.hd.length cp6).ownBlock=some q→w.heap.size≤q:=fun q hq=>by simp [Value.ownBlock] at hq;omega
 have hB7:=hB6.grown hgrow hg67
 have hX7:=hX6.grown hgrow (fun e=>by simp [Value.ownBlock] at e;omega)
 have hQ7:=hQ6.grown hgrow (fun e=>by simp [Value.ownBlock] at e;omega)
 have hMk7:=hMk6.same (hgrow.block c (by omega) (fun e=>by simp [Value.ownBlock] at e;omega))
 have hz7:=hgrow.size
 clear hown' hgrow hnil hX6 hM6 hMk6 hR6 hcc1 hcc2 hc0 hc3 hc4 hc5 hg67 hQ6 hB6
 obtain ⟨Z2,hZ2⟩:∃ Z,Z=K.hd++Y:=⟨_,rfl⟩
 rw [← hZ2] at hR7
 have HZ2:Hid (Z2=K.hd++Y):=hZ2
 clear hZ2
 obtain ⟨g7,cp7,rfl⟩:=hR7.shape
 have hl7:=hR7.lo
 obtain ⟨w8,hw8⟩:∃ w8,w8=w7.setCell ⟨w.heap.size,1,none⟩ (.slice (some ⟨g7,0,none⟩) Z2.length cp7):=⟨_,rfl⟩
 have hB8:But c w w8:=by rw [hw8];exact hB7.setNew (p:=⟨w.heap.size,1,none⟩) _ (Nat.le_refl _)
 have hX8:Box w.heap.size (.slice (some ⟨g4,0,none⟩) Z1.length cp4) (.slice (some ⟨g7,0,none⟩) Z2.length cp7) (.bool K.lp) w8:=by rw [hw8];exact hX7.set1 _
 have hQ8:OwnN w8 wc.heap.size (.slice (some ⟨g4,0,none⟩) Z1.length cp4) Z1:=by rw [hw8];exact hQ7.set (p:=⟨w.heap.size,1,none⟩) _ hwc
 have hR8:OwnN w8 w5.heap.size (.slice (some ⟨g7,0,none⟩) Z2.length cp7) Z2:=by rw [hw8];exact hR7.set (p:=⟨w.heap.size,1,none⟩) _ (by show w.heap.size < w5.heap.size;omega)
 have hMk8:Mrk c w w8 (F.bad || (twiceB X || twiceB Y)):=by rw [hw8];exact hMk7.same (Below.heap_setCell w7 ⟨w.heap.size,1,none⟩ _ c (by simp;omega))
 obtain ⟨⟨x0,x1,x2,_⟩,xf0,xf1,xf2⟩:=id hX7
 go_upto_region 6 with fail
 rw [← hw8]
 clear hw8 x0 x1 x2 xf0 xf1 xf2 hX7 hMk7 hQ7 hB7 hR7
 have hZ1:=HZ1.out
 have hZ2:=HZ2.out
 subst hZ1
 subst hZ2
 have hsn:∀ i (h:i < (K.nm++X).length),(K.nm++X)[i].size≤maxLen:=fun j hj=>by
  rw [List.getElem_append]
  split
  ·rename_i h1
   exact hE.2.2.1.size j h1
  ·exact hXm _ _
 have hsh:∀ i (h:i < (K.hd++Y).length),(K.hd++Y)[i].size≤maxLen:=fun j hj=>by
  rw [List.getElem_append]
  split
  ·rename_i h1
   exact hE.2.2.2.size j h1
  ·exact hYm _ _
 have hE8:Env c w8 a L (.slice (some ⟨g4,0,none⟩) (K.nm++X).length cp4) (.slice (some ⟨g7,0,none⟩) (K.hd++Y).length cp7) (addH (addN K X) Y) (F.plus ⟨[],[],twiceB X || twiceB Y⟩):=by
  rw [plus_bad]
  exact ⟨hE.1.mrk hB8 hMk8,hE.2.1.but hB8,hQ8.lst (c:=c) (by omega) hsn,hR8.lst (c:=c) (by omega) hsh⟩
 have hkn2:(addH (addN K X) Y).nm.length≤kb L i:=by show (K.nm++X).length≤_;rw [List.length_append];omega
 have hkh2:(addH (addN K X) Y).hd.length≤kb L i:=by show (K.hd++Y).length≤_;rw [List.length_append];omega
 have hlp2:(addH (addN K X) Y).lp=K.lp:=rfl
 clear hQ8 hR8 hMk8 hsn hsh hkn hkh
 generalize (.slice (some ⟨g4,0,none⟩) (K.nm++X).length cp4:Value)=vn2 at hE8 hX8 ⊢
 generalize (.slice (some ⟨g7,0,none⟩) (K.hd++Y).length cp7:Value)=vh2 at hE8 hX8 ⊢
 obtain ⟨f,hf⟩:∃ f:Int→Ot,f=fun p=>wk L n 0 false p (addH (addN K X) Y):=⟨_,rfl⟩
 rw [← hf] at HW HBD
 have HF:Hid (∀ p,wk L n 0 false p (addH (addN K X) Y)=f p):=fun p=>by rw [hf]
 clear hf
 generalize addH (addN K X) Y=K2 at hE8 hkn2 hkh2 hlp2 HF
 have HLP:Hid (K2.lp=K.lp):=hlp2
 clear hlp2
 generalize F.plus ⟨[],[],twiceB X || twiceB Y⟩=F1 at hE8 HW HBD
 clear hX hY hXm hYm hkl hkhl
 go_wp2
 go_loopw [2,12] (fun v2 v12 wr=>∃ (x m:Nat) (b:Bool) (G:Ot),v2=.int .i64 (x:Int)∧v12=.bool b∧i≤(x:Int)∧chainD L m (x:Int) e∧Env c wr a L vn2 vh2 K2 G∧Box w.heap.size vn2 vh2 (.bool K.lp) wr∧But c w wr∧Hid (G.plus (blk L f (b && v) (chainP L m (x:Int)))=F1.plus (blk L f v (chainP L k i)))∧Hid (Bnd G (blk L f (b && v) (chainP L m (x:Int))))) (fun v2 _ _=>e.toNat - (intOf v2).toNat)
 case atStart =>
  obtain ⟨q,hq⟩:∃ q:Nat,i=(q:Int):=⟨i.toNat,by omega⟩
  subst hq
  exact ⟨q,k,true,F1,rfl,rfl,Int.le_refl _,hch,hE8,hX8,hB8,rfl,HBD.out⟩
 case round =>
  obtain ⟨x,m,b,G,rfl,rfl,hix,hm,hEr,hXr,hBr,HP,HB⟩:=hrel
  have hxe:=chain_ends m _ hm he0
  have hxl:(x:Int)≤(L.length:Int):=by omega
  cases m with
  | zero =>
   have ex:(x:Int)=e:=hm
   have HM:Hid ((decide ((x:Int) < (L.length:Int)) && !isW (sgAt L (x:Int)) [41])=false):=more_no (by rw [ex];exact hend)
   have HR:Hid (Fnd c wr (F.plus (wk L (n+1) 1 v i K))):=(by rw [HW.out,← HP.out];show Fnd c wr (G.plus Ot.none);rw [Ot.plus_none];exact hEr.1:Fnd c wr (F.plus (wk L (n+1) 1 v i K)))
   clear HP HB HW HBD ex hm hxe
   have hx0:(0:Int)≤(x:Int):=by omega
   have hx1:(x:Int)≤(L.length:Int):=hxl
   go_wp2_with fail
   refine (l5More_any a cap L (x:Int) _ hEr.2.1.arg (by omega) hx0 hx1).mono ?_
   rintro r w9 ⟨rfl,hb9⟩
   rw [HM.out]
   go_wp2
   go_end0
   exact ⟨rfl,HR.out.call hb9,hBr.trans (But.of_below hb9)⟩
  | succ m =>
   obtain ⟨hd,hm2⟩:=hm
   have hdl:=deed_long hd
   have hde:=deed_item hd
   have hq:=chain_ends m _ hm2 he0
   have HM:Hid ((decide ((x:Int) < (L.length:Int)) && !isW (sgAt L (x:Int)) [41])=true):=more_yes hd
   have hfar:=far_le (L:=L) (by omega:0≤i) hix
   have hk1:=kb_mono (L:=L) hix
   have HPx:Hid (((G.plus ⟨[],[],isW (sgAt L ((x:Int)+1)) [118,97,114,115] && !(b && v)⟩).plus (f (x:Int))).plus (blk L f false (chainP L m (itemE L (x:Int))))=F1.plus (blk L f v (chainP L k i))):=by
    show _=_
    rw [← HP.out,← Ot.plus_add,← Ot.plus_add]
    rfl
   have hb2:=HB.out
   have hb3:Bnd G ((Ot.mk [] [] (isW (sgAt L ((x:Int)+1)) [118,97,114,115] && !(b && v))).add ((f (x:Int)).add (blk L f false (chainP L m (itemE L (x:Int)))))):=hb2
   have HB1:Hid (Bnd (G.plus ⟨[],[],isW (sgAt L ((x:Int)+1)) [118,97,114,115] && !(b && v)⟩) (f (x:Int))):=hb3.right.left
   have HB2:Hid (Bnd ((G.plus ⟨[],[],isW (sgAt L ((x:Int)+1)) [118,97,114,115] && !(b && v)⟩).plus (f (x:Int))) (blk L f false (chainP L m (itemE L (x:Int))))):=hb3.right.right
   clear HP HB hb2 hb3
   obtain ⟨z,hz⟩:∃ z:Nat,itemE L (x:Int)=(z:Int):=⟨(itemE L (x:Int)).toNat,by omega⟩
   have HZ:Hid (itemE L (x:Int)=(z:Int)):=hz
   rw [hz] at HPx HB2 hde
   rw [← hde] at hm2 hq hdl
   clear hz hde
   have hIx:=fun (Gx:Ot) (W:World) (hEx:Env c W a L vn2 vh2 K2 Gx) (hBx:Bnd Gx (f (x:Int)))=>hIt (x:Int) K2 Gx vn2 vh2 W hEx (Or.inr hd) (by omega) (by omega) (by omega) (by rw [HF.out];exact hBx)
   have HIx:Hid (∀ (Gx:Ot) (W:World),Env c W a L vn2 vh2 K2 Gx→Bnd Gx (f (x:Int))→Calls Tryz.prog 61 #[.pointer (some ⟨c,0,none⟩),.slice a L.length cap,.int .i64 (x:Int),.agg #[vn2,vh2,.bool K.lp]] W fun e w'=>e=.returned (.tuple #[])∧Fnd c w' (Gx.plus (f (x:Int)))∧But c W w'):=fun Gx W h1 h2=>by
    have h3:=hIx Gx W h1 h2
    rw [HF.out,HLP.out] at h3
    exact h3
   clear hIx
   obtain ⟨sb,off,rfl,hc1,_,hsbl,_⟩:=hEr.2.1.at (x+1) (by omega)
   have hcst:((x+1:Nat):Int)=(x:Int)+1:=by omega
   rw [hcst] at hc1
   clear hcst
   have hx0:(0:Int)≤(x:Int):=by omega
   go_wp2_with fail
   refine (l5More_any _ cap L (x:Int) _ hEr.2.1.arg (by omega) hx0 hxl).mono ?_
   rintro r w9 ⟨rfl,hb9⟩
   rw [HM.out]
   have hE9:=hEr.call hb9
   have hX9:=hXr.call hb9
   have hB9:=hBr.trans (But.of_below hb9)
   have hc9:=(hb9.cell (p:=⟨sb,off+(x+1),none⟩) hsbl).trans hc1
   obtain ⟨u0,u1,u2,_⟩:=hX9.1
   clear hEr hXr hBr hb9 hc1 HM
   cases hv:isW (sgAt L ((x:Int)+1)) [118,97,114,115]
   ·have HG:Hid (G.plus ⟨[],[],isW (sgAt L ((x:Int)+1)) [118,97,114,115] && !(b && v)⟩=G.plus ⟨[],[],false⟩):=(by rw [hv];rfl:G.plus ⟨[],[],isW (sgAt L ((x:Int)+1)) [118,97,114,115] && !(b && v)⟩=G.plus ⟨[],[],false⟩)
    have bvr:((sgAt L ((x:Int)+1)).toList == [118,97,114,115])=false:=hv
    rw [HG.out] at HPx HB1 HB2
    clear HG hv
    generalize sgAt L ((x:Int)+1)=hdS at hc9 bvr
    have HG0:Hid (G.plus ⟨[],[],false⟩=G):=Ot.plus_none G
    rw [HG0.out] at HPx HB1 HB2
    clear HG0
    have HCx:=HIx.out G w9 hE9 HB1.out
    have HC:Hid (Calls Tryz.prog 61 #[.pointer (some ⟨c,0,none⟩),.slice (some ⟨sb,off,none⟩) L.length cap,.int .i64 (x:Int),.agg #[vn2,vh2,.bool K.lp]] w9 fun e w'=>e=.returned (.tuple #[])∧Fnd c w' (G.plus (f (x:Int)))∧But c w9 w'):=HCx
    clear HCx HIx
    generalize f (x:Int)=o1 at HC HPx HB2
    go_wp2_with fail
    refine HC.out.mono ?_
    rintro r w10 ⟨rfl,hF10,hb10⟩
    have hE10:=hE9.but hb10 hF10
    have hX10:=hX9.but hb10 (by omega)
    have hB10:=hB9.trans hb10
    clear HC
    go_wp2_with fail
    refine (itemEndS_any _ cap L (x:Int) _ hE10.2.1.arg (by omega) ⟨by omega,by omega⟩).mono ?_
    rintro r w11 ⟨rfl,hb11⟩
    have hE11:=hE10.call hb11
    have hX11:=hX10.call hb11
    have hB11:=hB10.trans (But.of_below hb11)
    rw [HZ.out]
    go_wp2
    go_roundw
    case rel=>exact ⟨z,m,false,_,rfl,rfl,by omega,hm2,hE11,hX11,hB11,HPx.out,HB2.out⟩
    case measure=>simp [intOf];omega
   ·cases b
    ·have HG:Hid (G.plus ⟨[],[],isW (sgAt L ((x:Int)+1)) [118,97,114,115] && !(false && v)⟩=G.plus ⟨[],[],true⟩):=(by rw [hv];rfl:G.plus ⟨[],[],isW (sgAt L ((x:Int)+1)) [118,97,114,115] && !(false && v)⟩=G.plus ⟨[],[],true⟩)
     have bvr:((sgAt L ((x:Int)+1)).toList == [118,97,114,115])=true:=hv
     rw [HG.out] at HPx HB1 HB2
     clear HG hv
     generalize sgAt L ((x:Int)+1)=hdS at hc9 bvr
     obtain ⟨vf,vs,q0,q1,q2,_,_,fq0,fq1,fq2,_⟩:=id hE9.1
     have hFs:Fnd c (w9.setCell ⟨c,2,none⟩ (.bool true)) (G.plus ⟨[],[],true⟩):=by rw [plus_bad,Bool.or_true];exact hE9.1.setBad true
     have hbs:But c w9 (w9.setCell ⟨c,2,none⟩ (.bool true)):=(But.refl c w9).setCur 2 _
     have hEs:=hE9.but hbs hFs
     have hXs:=hX9.but hbs (by omega)
     have hBs:=hB9.trans hbs
     have HCx:=HIx.out _ _ hEs HB1.out
     have HC:Hid (Calls Tryz.prog 61 #[.pointer (some ⟨c,0,none⟩),.slice (some ⟨sb,off,none⟩) L.length cap,.int .i64 (x:Int),.agg #[vn2,vh2,.bool K.lp]] (w9.setCell ⟨c,2,none⟩ (.bool true)) fun e w'=>e=.returned (.tuple #[])∧Fnd c w' ((G.plus ⟨[],[],true⟩).plus (f (x:Int)))∧But c (w9.setCell ⟨c,2,none⟩ (.bool true)) w'):=HCx
     clear HCx HIx
     generalize f (x:Int)=o1 at HC HPx HB2
     obtain ⟨y0,y1,y2,_⟩:=hXs.1
     go_wp2_with fail
     refine HC.out.mono ?_
     rintro r w10 ⟨rfl,hF10,hb10⟩
     have hE10:=hEs.but hb10 hF10
     have hX10:=hXs.but hb10 (by omega)
     have hB10:=hBs.trans hb10
     clear HC
     go_wp2_with fail
     refine (itemEndS_any _ cap L (x:Int) _ hE10.2.1.arg (by omega) ⟨by omega,by omega⟩).mono ?_
     rintro r w11 ⟨rfl,hb11⟩
     have hE11:=hE10.call hb11
     have hX11:=hX10.call hb11
     have hB11:=hB10.trans (But.of_below hb11)
     rw [HZ.out]
     go_wp2
     go_roundw
     case rel=>exact ⟨z,m,false,_,rfl,rfl,by omega,hm2,hE11,hX11,hB11,HPx.out,HB2.out⟩
     case measure=>simp [intOf];omega
    ·cases v
     ·have HG:Hid (G.plus ⟨[],[],isW (sgAt L ((x:Int)+1)) [118,97,114,115] && !(true && false)⟩=G.plus ⟨[],[],true⟩):=(by rw [hv];rfl:G.plus ⟨[],[],isW (sgAt L ((x:Int)+1)) [118,97,114,115] && !(true && false)⟩=G.plus ⟨[],[],true⟩)
      have bvr:((sgAt L ((x:Int)+1)).toList == [118,97,114,115])=true:=hv
      rw [HG.out] at HPx HB1 HB2
      clear HG hv
      generalize sgAt L ((x:Int)+1)=hdS at hc9 bvr
      obtain ⟨vf,vs,q0,q1,q2,_,_,fq0,fq1,fq2,_⟩:=id hE9.1
      have hFs:Fnd c (w9.setCell ⟨c,2,none⟩ (.bool true)) (G.plus ⟨[],[],true⟩):=by rw [plus_bad,Bool.or_true];exact hE9.1.setBad true
      have hbs:But c w9 (w9.setCell ⟨c,2,none⟩ (.bool true)):=(But.refl c w9).setCur 2 _
      have hEs:=hE9.but hbs hFs
      have hXs:=hX9.but hbs (by omega)
      have hBs:=hB9.trans hbs
      have HCx:=HIx.out _ _ hEs HB1.out
      have HC:Hid (Calls Tryz.prog 61 #[.pointer (some ⟨c,0,none⟩),.slice (some ⟨sb,off,none⟩) L.length cap,.int .i64 (x:Int),.agg #[vn2,vh2,.bool K.lp]] (w9.setCell ⟨c,2,none⟩ (.bool true)) fun e w'=>e=.returned (.tuple #[])∧Fnd c w' ((G.plus ⟨[],[],true⟩).plus (f (x:Int)))∧But c (w9.setCell ⟨c,2,none⟩ (.bool true)) w'):=HCx
      clear HCx HIx
      generalize f (x:Int)=o1 at HC HPx HB2
      obtain ⟨y0,y1,y2,_⟩:=hXs.1
      go_wp2_with fail
      refine HC.out.mono ?_
      rintro r w10 ⟨rfl,hF10,hb10⟩
      have hE10:=hEs.but hb10 hF10
      have hX10:=hXs.but hb10 (by omega)
      have hB10:=hBs.trans hb10
      clear HC
      go_wp2_with fail
      refine (itemEndS_any _ cap L (x:Int) _ hE10.2.1.arg (by omega) ⟨by omega,by omega⟩).mono ?_
      rintro r w11 ⟨rfl,hb11⟩
      have hE11:=hE10.call hb11
      have hX11:=hX10.call hb11
      have hB11:=hB10.trans (But.of_below hb11)
      rw [HZ.out]
      go_wp2
      go_roundw
      case rel=>exact ⟨z,m,false,_,rfl,rfl,by omega,hm2,hE11,hX11,hB11,HPx.out,HB2.out⟩
      case measure=>simp [intOf];omega
     ·have HG:Hid (G.plus ⟨[],[],isW (sgAt L ((x:Int)+1)) [118,97,114,115] && !(true && true)⟩=G.plus ⟨[],[],false⟩):=(by rw [hv];rfl:G.plus ⟨[],[],isW (sgAt L ((x:Int)+1)) [118,97,114,115] && !(true && true)⟩=G.plus ⟨[],[],false⟩)
      have bvr:((sgAt L ((x:Int)+1)).toList == [118,97,114,115])=true:=hv
      rw [HG.out] at HPx HB1 HB2
      clear HG hv
      generalize sgAt L ((x:Int)+1)=hdS at hc9 bvr
      have HG0:Hid (G.plus ⟨[],[],false⟩=G):=Ot.plus_none G
      rw [HG0.out] at HPx HB1 HB2
      clear HG0
      have HCx:=HIx.out G w9 hE9 HB1.out
      have HC:Hid (Calls Tryz.prog 61 #[.pointer (some ⟨c,0,none⟩),.slice (some ⟨sb,off,none⟩) L.length cap,.int .i64 (x:Int),.agg #[vn2,vh2,.bool K.lp]] w9 fun e w'=>e=.returned (.tuple #[])∧Fnd c w' (G.plus (f (x:Int)))∧But c w9 w'):=HCx
      clear HCx HIx
      generalize f (x:Int)=o1 at HC HPx HB2
      go_wp2_with fail
      refine HC.out.mono ?_
      rintro r w10 ⟨rfl,hF10,hb10⟩
      have hE10:=hE9.but hb10 hF10
      have hX10:=hX9.but hb10 (by omega)
      have hB10:=hB9.trans hb10
      clear HC
      go_wp2_with fail
      refine (itemEndS_any _ cap L (x:Int) _ hE10.2.1.arg (by omega) ⟨by omega,by omega⟩).mono ?_
      rintro r w11 ⟨rfl,hb11⟩
      have hE11:=hE10.call hb11
      have hX11:=hX10.call hb11
      have hB11:=hB10.trans (But.of_below hb11)
      rw [HZ.out]
      go_wp2
      go_roundw
      case rel=>exact ⟨z,m,false,_,rfl,rfl,by omega,hm2,hE11,hX11,hB11,HPx.out,HB2.out⟩
      case measure=>simp [intOf];omega
end Go.Proofs.YtdgihicpjonjgaaGreatDoor
