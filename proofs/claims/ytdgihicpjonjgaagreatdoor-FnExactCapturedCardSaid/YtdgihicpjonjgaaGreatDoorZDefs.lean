import Derived.Test.YtdgihicpjonjgaaGreatDoorZRdTwo
import Derived.Test.YtdgihicpjonjgaaGreatDoorZRdN
import Derived.Test.YtdgihicpjonjgaaGreatDoorZFreeC
import Derived.Test.YtdgihicpjonjgaaGreatDoorZPlain
namespace Go.Proofs.YtdgihicpjonjgaaGreatDoor
open Go.RowKit
def Gk (L:List ByteArray) (k:Int):Prop:=isW (sgAt L k) [40]=true→k+1 < (L.length:Int)∧(isW (sgAt L (k+1)) [102,110]=true→fm L 0 k≠-1)
def Gx (L:List ByteArray) (i x:Int):Prop:=x=-1∨∀ k,i≤k→k < x→Gk L k
section
variable {L:List ByteArray} {i j x:Int}
theorem gk_not (h:isW (sgAt L i) [40]=false):Gk L i:=fun ho=>by rw [h] at ho;cases ho
theorem gk_open (h1:i+1 < (L.length:Int)) (h2:isW (sgAt L (i+1)) [102,110]=false):Gk L i:=fun _=>⟨h1,fun h=>by rw [h2] at h;cases h⟩
theorem nm_fn {s:ByteArray} (h:nmB s=true):isW s [102,110]=false:=by
 cases hc:isW s [102,110]
 ·rfl
 ·rw [isW_eq hc] at h
  exact absurd h (by decide +kernel)
theorem gx_at:Gx L i i:=Or.inr fun k h1 h2=>absurd h2 (by omega)
theorem gx_no:Gx L i (-1):=Or.inl rfl
theorem gx_ite {c:Prop} [Decidable c] {y:Int} (h1:Gx L i x) (h2:Gx L i y):Gx L i (if c then x else y):=by split <;> assumption
theorem Gx.trans {y:Int} (h:Gx L i x) (hn:x=-1→y=-1) (k:Gx L x y):Gx L i y:=by
 rcases h with h | h
 ·exact Or.inl (hn h)
 ·rcases k with k | k
  ·exact Or.inl k
  ·exact Or.inr fun j h1 h2=>if hj:j < x then h j h1 hj else k j (by omega) h2
theorem gx_more (h:Gx L i x) (hx:x≠-1) (hg:Gk L x):Gx L i (x+1):=by
 rcases h with h | h
 ·exact absurd h hx
 ·refine Or.inr fun k h2 h3=>?_
  by_cases hk:k < x
  ·exact h k h2 hk
  ·have:k=x:=by omega
   subst this
   exact hg
theorem gx_isE (h:Gx L i x):Gx L i (isE L x [41]):=by
 by_cases hn:isE L x [41]=-1
 ·exact Or.inl hn
 ·obtain ⟨he,h0,h1,hb⟩:=isE_pos (by decide) hn
  rw [he]
  exact gx_more h (by omega) (gk_not (isW_other hb (by decide)))
theorem gx_isO (hg:Gk L x) (h:Gx L i x):Gx L i (isE L x [40]):=by
 by_cases hn:isE L x [40]=-1
 ·exact Or.inl hn
 ·obtain ⟨he,h0,h1,hb⟩:=isE_pos (by decide) hn
  rw [he]
  exact gx_more h (by omega) hg
theorem gx_nm (h:Gx L i x):Gx L i (nmE L x):=by
 by_cases hn:nmE L x=-1
 ·exact Or.inl hn
 ·obtain ⟨he,h0,h1,hb⟩:=nmE_pos hn
  rw [he]
  exact gx_more h (by omega) (gk_not (nm_plain hb).1)
theorem gx_form (hG:Gk L i) (hp:Gk L (i+1)) (h:Gx L (i+2) x):Gx L i x:=by
 rcases h with h | h
 ·exact Or.inl h
 ·refine Or.inr fun k h2 h3=>?_
  by_cases h4:k=i
  ·subst h4;exact hG
  ·by_cases h5:k=i+1
   ·subst h5;exact hp
   ·exact h k (by omega) h3
def Cl (L:List ByteArray) (j:Int):Prop:=∀ m x,m≤11→Fw L j x→Gx L x (fm L m x)
theorem Cl.go (hr:Cl L j) {m:Nat} (hm:m≤11) (hF:Fw L j x) (h:Gx L i x):Gx L i (fm L m x):=h.trans (fun e=>by rw [e];exact fm_none m hm) (hr m x hm hF)
theorem gk_it (h:ItV L i) (ho:isW (sgAt L i) [40]=true) (hf:isW (sgAt L (i+1)) [102,110]=true→fm L 0 i≠-1):Gk L i∧Gk L (i+1):=by
 have hp:=h.plain ho
 obtain ⟨hit,k,e,hch,he0,he1,_,_⟩:=h.parts ho
 have hk:=chI_ends k _ hch he0
 exact ⟨fun _=>⟨by omega,hf⟩,gk_not hp.1⟩
theorem gk_fn (h:ItV L i) (ho:isW (sgAt L i) [40]=true) (hc:isW (sgAt L (i+1)) [102,110]=true):Gk L (i+2):=by
 obtain ⟨_,k,e7,_,_,hq,h0,h1,h41,_⟩:=h.fn ho hc
 have hk:=chainQ_ends k _ hq h0
 refine gk_open (by omega) ?_
 rw [show i+2+1=i+3 by omega]
 cases k with
 | zero =>
  have e1:i+3=e7:=hq
  rw [e1]
  exact isW_other h41 (by decide)
 | succ k =>
  rcases (par_at hq.1).2.2 with ⟨p1,_⟩ | ⟨_,p2,_⟩
  ·exact isW_other p1 (by decide)
  ·exact nm_fn p2
theorem sumS_gx (hr:Cl L (i+2)):Gx L i (sumS L (fm L) i):=by
 by_cases hne:sumS L (fm L) i=-1
 ·exact Or.inl hne
 rw [← fm_sum] at hne
 have hv:ItV L i:=Or.inl hne
 cases ho:isW (sgAt L i) [40]
 ·unfold sumS
  rw [ho]
  simp only [Bool.false_eq_true,if_false]
  split
  ·exact gx_more gx_at (by have:=hv.ends;omega) (gk_not ho)
  ·exact gx_no
 ·obtain ⟨g0,g1⟩:=gk_it hv ho (fun _=>hne)
  obtain ⟨h0,h1⟩:=sgAt_open ho
  refine gx_form g0 g1 ?_
  have hg:=fm_good L
  have hs:Fw L (i+2) (i+2):=fw_at (by omega)
  have ha:Gx L (i+2) (i+2):=gx_at
  unfold sumS
  rw [ho]
  simp only [if_true]
  split
  ·exact gx_isE (hr.go (by decide) hs ha)
  ·split
   ·rename_i hf
    have g2:=gk_fn hv ho hf
    have F7:=(isE_ends (c:=[40]) (by decide) hs).fw
    have F6:=(isE_ends (c:=[41]) (by decide) (hg.fw (m:=7) (by decide) F7)).fw
    exact gx_isE (hr.go (by decide) F6 (gx_isE (hr.go (by decide) F7 (gx_isO g2 ha))))
   ·split
    ·exact gx_isE (hr.go (by decide) (hg.ends (m:=0) (by decide) hs).fw (hr.go (by decide) hs ha))
    ·split
     ·exact gx_isE (hr.go (by decide) hs ha)
     ·split
      ·exact gx_isE ha
      ·split
       ·exact gx_isE (hr.go (by decide) (nmE_ends hs).fw (gx_nm ha))
       ·exact gx_no
theorem deedS_gx (f:Bool) (hr:Cl L (i+2)):Gx L i (deedS L (fm L) f i):=by
 by_cases hne:deedS L (fm L) f i=-1
 ·exact Or.inl hne
 have hd:fm L 1 i≠-1:=by
  cases f
  ·rw [← fm_deed2] at hne
   rw [rule_deed hne]
   exact hne
  ·rw [← fm_deed] at hne
   exact hne
 have hv:ItV L i:=Or.inr hd
 have ho:=deed_open hd
 obtain ⟨h0,h1⟩:=sgAt_open ho
 obtain ⟨g0,g1⟩:=gk_it hv ho (fun hf=>by
  exfalso
  have he:=deed_at hd
  rw [isW_eq hf] at he
  exact hd (he.trans (by unfold deedH;simp [isW_lit])))
 have hg:=fm_good L
 have hs:Fw L (i+2) (i+2):=fw_at (by omega)
 have ha:Gx L (i+2) (i+2):=gx_at
 refine gx_form g0 g1 ?_
 unfold deedS
 rw [if_pos ho]
 split
 ·exact gx_no
 ·cases ht:isW (sgAt L (i+1)) [116,97,107,101]
  ·unfold deedH
   rw [ht]
   simp only [Bool.false_eq_true,if_false]
   repeat' (first | exact gx_no | with_reducible refine gx_ite ?_ ?_ | exact hs | exact ha | refine gx_isE ?_ | refine gx_nm ?_ | refine hr.go (by decide) ?_ ?_ | refine hg.fw (by decide) ?_ | refine hg.ends (by decide) ?_ | refine isE_ends (by decide) ?_ | refine nmE_ends ?_ | refine Ends.fw ?_)
  ·obtain ⟨t1,t2,t3,t4,t5,t6⟩:=take_at hd (isW_eq ht)
   have g2:Gk L (i+2):=gk_open (by omega) (by rw [show i+2+1=i+3 by omega];exact nm_fn (t4 (i+3) (Int.le_refl _) (by omega)))
   rw [isW_eq ht,deedH_take]
   have F4:=(isE_ends (c:=[40]) (by decide) hs).fw
   have F5:=(nmE_ends (L:=L) F4).fw
   have F0:=(isE_ends (c:=[41]) (by decide) (hg.fw (m:=5) (by decide) F5)).fw
   exact gx_isE (hr.go (by decide) F0 (gx_isE (hr.go (by decide) F5 (gx_nm (gx_isO g2 ha)))))
theorem parS_gx (hr:Cl L (i+1)):Gx L i (parS L (fm L) i):=by
 by_cases hne:parS L (fm L) i=-1
 ·exact Or.inl hne
 rw [← fm_par] at hne
 obtain ⟨h0,h1,hpp⟩:=par_at hne
 unfold parS
 rcases hpp with ⟨q1,q2,q3,_⟩ | ⟨q1,q2,_⟩
 ·rw [if_pos q1]
  have hs:Fw L (i+1) (i+1):=fw_at (by omega)
  have ha:Gx L i (i+1):=gx_more gx_at (by omega) (gk_open q3 (nm_fn q2))
  exact gx_isE (hr.go (by decide) (nmE_ends hs).fw (gx_nm ha))
 ·rw [if_neg (by rw [q1];decide)]
  exact gx_nm gx_at
end
theorem all_gx (L:List ByteArray):∀ n m i,m≤11→-1≤i→i≤(L.length:Int)+1→needN L m i≤n→Gx L i (fm L m i)
 | 0,m,i,hm,_,_,h=>by have:=(need_le (L:=L) m hm i).1;omega
 | n+1,m,i,hm,i0,i1,h=>by
  have IH:=all_gx L n
  have hg:=fm_good L
  have hnl:=need_le (L:=L) m hm i
  have key:∀ j,i < j→j≤i+2→0≤i→i < (L.length:Int)→Cl L j:=fun j hj hj2 h0 h1 q x hq hF=>by
   have hf:=far_fw h0 (by omega) hj hF
   have hq':=need_le (L:=L) q hq x
   refine IH q x hq ?_ ?_ (by omega)
   all_goals unfold Fw at hF;omega
  by_cases hin:0≤i∧i < (L.length:Int)
  ·obtain ⟨h0,h1⟩:=hin
   by_cases c0:m=0
   ·subst c0
    rw [fm_sum]
    exact sumS_gx (key (i+2) (by omega) (by omega) h0 h1)
   by_cases c1:m=1
   ·subst c1
    rw [fm_deed]
    exact deedS_gx true (key (i+2) (by omega) (by omega) h0 h1)
   by_cases c2:m=2
   ·subst c2
    rw [fm_deed2]
    exact deedS_gx false (key (i+2) (by omega) (by omega) h0 h1)
   by_cases c3:m=3
   ·subst c3
    rw [fm_par]
    exact parS_gx (key (i+1) (by omega) (by omega) h0 h1)
   by_cases c8:m < 8
   ·obtain ⟨q,rfl⟩:∃ q,m=4+q:=⟨m - 4,by omega⟩
    unfold needN at h
    rw [if_neg (by omega),if_pos (by omega)] at h
    rw [fm_many q (by omega) i0 i1]
    unfold manyS
    split
    ·exact gx_at
    ·have hpos:1≤farN L i:=by unfold farN;rw [if_neg (by omega)];omega
     have ho:Gx L i (oneS L (fm L) q i):=by
      unfold oneS
      split
      ·exact IH 0 i (by decide) i0 i1 (by unfold needN;rw [if_pos (by decide)];omega)
      ·split
       ·exact gx_nm gx_at
       ·split
        ·exact IH 1 i (by decide) i0 i1 (by unfold needN;rw [if_pos (by decide)];omega)
        ·exact IH 3 i (by decide) i0 i1 (by unfold needN;rw [if_pos (by decide)];omega)
     have hE:=oneS_ends hg q i0
     generalize oneS L (fm L) q i=y at ho hE
     have hfe:=far_ends hE i1
     unfold Ends at hE
     exact ho.trans (fun e=>by rw [e];exact fm_none _ hm) (IH (4+q) y hm (by omega) (by omega) (by unfold needN;rw [if_neg (by omega),if_pos (by omega)];omega))
   ·obtain ⟨k,rfl⟩:∃ k,m=8+k:=⟨m - 8,by omega⟩
    unfold needN at h
    rw [if_neg (by omega),if_neg (by omega)] at h
    rw [fm_sums k (by omega) i0 i1]
    cases k with
    | zero=>exact gx_at
    | succ k =>
     show Gx L i (if i < 0 then i else fm L (8+k) (fm L 0 i))
     rw [if_neg (by omega)]
     have ho:=IH 0 i (by decide) i0 i1 (by unfold needN;rw [if_pos (by decide)];omega)
     have hE:=hg.1 0 i (by decide)
     generalize fm L 0 i=y at ho hE
     have hfe:=far_ends hE i1
     unfold Ends at hE
     exact ho.trans (fun e=>by rw [e];exact fm_none _ (by omega)) (IH (8+k) y (by omega) (by omega) (by omega) (by unfold needN;rw [if_neg (by omega),if_neg (by omega)];omega))
  ·have hx:fm L m i=-1∨fm L m i=i:=by
    by_cases h4:m < 4
    ·have hE:=hg.1 m i h4
     unfold Ends at hE
     omega
    ·have hE:=hg.2 m i (by omega) i0
     unfold Fw at hE
     omega
   rcases hx with hx | hx
   ·rw [hx];exact gx_no
   ·rw [hx];exact gx_at
theorem deeds_gk {L:List ByteArray} {e:Int}:∀ k i,chainD L k i e→0≤e→∀ j,i≤j→j < e→Gk L j
 | 0,i,h,_,j,h1,h2=>by
  have:i=e:=h
  omega
 | k+1,i,h,he,j,h1,h2=>by
  have hl:=deed_long h.1
  by_cases hj:j < fm L 1 i
  ·have hn:=need_le (L:=L) 1 (by decide) i
   rcases all_gx L _ 1 i (by decide) (by omega) (by omega) (Nat.le_refl _) with hx | hx
   ·exact absurd hx h.1
   ·exact hx j h1 hj
  ·exact deeds_gk k _ h.2 he j (by omega) h2
theorem play_gk {L:List ByteArray} (h:playB L=true) (j:Int) (h0:0≤j) (h1:j < (L.length:Int)):Gk L j:=by
 obtain ⟨k,hk⟩:=play_deeds h
 exact deeds_gk k 0 hk (by omega) j h0 h1
end Go.Proofs.YtdgihicpjonjgaaGreatDoor
namespace Go.Proofs.YtdgihicpjonjgaaGreatDoor
open Go.RowKit
theorem putAll_empty (Y:List ByteArray):(putAll [] Y).isEmpty=Y.isEmpty:=by
 cases Y with
 | nil=>rfl
 | cons y Y =>
  have h:y∈putAll [] (y :: Y):=(putAll_mem (y :: Y) [] y).mpr (Or.inr (List.mem_cons_self ..))
  cases hq:putAll [] (y :: Y) with
  | nil=>rw [hq] at h;cases h
  | cons z Z=>rfl
theorem scop_same (L:List ByteArray):(playB L && ((findO L).fr.isEmpty && ((findO L).sc.isEmpty && !(findO L).bad)))=scopB L:=by
 unfold scopB fndO Ot.plus
 simp only [Ot.none,Bool.false_or]
 rw [putAll_empty,putAll_empty]
end Go.Proofs.YtdgihicpjonjgaaGreatDoor
