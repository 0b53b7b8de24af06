import Derived.Test.YtdgihicpjonjgaaGreatDoorZLoops
import Derived.Test.YtdgihicpjonjgaaGreatDoorZQdOne
import Derived.Test.YtdgihicpjonjgaaGreatDoorZDefs
import Derived.Test.YtdgihicpjonjgaaGreatDoorZQdTwo
namespace Go.Proofs.YtdgihicpjonjgaaGreatDoor
open Go.RowKit
def dff (L:List ByteArray) (q:Int):Bool:=isW (sgAt L (q+1)) [102,110] || dwB (sgAt L (q+1)) && !isW (sgAt L (q+1)) [119,104,105,108,101]
theorem dff_word {L:List ByteArray} {q:Int} {c:List UInt8} (h:isW (sgAt L (q+1)) c=true) (h0:(c == [102,110])=false) (h1:(c == [100,111])=false) (h3:(c == [102,111,114])=false):dff L q=false:=by
 unfold dff dwB
 rw [isW_other h h0,isW_other h h1,isW_other h h3]
 cases isW (sgAt L (q+1)) [119,104,105,108,101] <;> rfl
theorem dff_nm {L:List ByteArray} {q:Int} (h:nmB (sgAt L (q+1))=true):dff L q=false:=by
 unfold dff
 rw [nm_fn h,nm_dw h]
 rfl
theorem dff_not {L:List ByteArray} {q:Int} (h0:isW (sgAt L (q+1)) [102,110]=false) (h1:isW (sgAt L (q+1)) [100,111]=false) (h3:isW (sgAt L (q+1)) [102,111,114]=false):dff L q=false:=by
 unfold dff dwB
 rw [h0,h1,h3]
 cases isW (sgAt L (q+1)) [119,104,105,108,101] <;> rfl
theorem dff_fn {L:List ByteArray} {q:Int} (h:isW (sgAt L (q+1)) [102,110]=true):dff L q=true:=by
 unfold dff
 rw [h]
 rfl
theorem dff_do {L:List ByteArray} {q:Int} (h:isW (sgAt L (q+1)) [100,111]=true):dff L q=true:=by
 unfold dff dwB
 rw [h,isW_other h (by decide),isW_other h (by decide)]
 rfl
theorem dff_for {L:List ByteArray} {q:Int} (h:isW (sgAt L (q+1)) [102,111,114]=true):dff L q=true:=by
 unfold dff dwB
 rw [h,isW_other h (by decide),isW_other h (by decide),isW_other h (by decide)]
 rfl
def Ow (L:List ByteArray) (o n:Int):Prop:=(o=-1∨(Anc L o n∧dff L o=true))∧∀ q,Anc L q n→dff L q=true→q≤o
section
variable {L:List ByteArray} {i j e x q k o p n:Int}
theorem anc_pos (h:Anc L q k):0≤q:=(sgAt_open h.1).1
theorem ow_one {o':Int} (h:Ow L o n) (h':Ow L o' n):o=o':=by
 rcases h.1 with h1 | h1
 ·rcases h'.1 with h2 | h2
  ·omega
  ·have:=h.2 o' h2.1 h2.2
   have:=anc_pos h2.1
   omega
 ·have h3:=h'.2 o h1.1 h1.2
  rcases h'.1 with h2 | h2
  ·have:=anc_pos h1.1
   omega
  ·have:=h.2 o' h2.1 h2.2
   omega
theorem anc_in (h:Anc L q p) (hn:isW (sgAt L p) [41]=false):itemE L p < itemE L q∧p < itemE L p:=by
 have h0:=(sgAt_open h.1).1
 have:=nest _ q p (Nat.le_refl _) h.1 (by have:=h.2.1;have:=h.2.2;omega) h.2.1 h.2.2 hn
 exact ⟨this.2,this.1⟩
theorem anc_trans (h:Anc L q p) (h':Anc L p n):Anc L q n:=by
 have h1:=anc_in h (isW_other h'.1 (by decide))
 exact ⟨h.1,by have:=h.2.1;have:=h'.2.1;omega,by have:=h'.2.2;omega⟩
theorem dec_anc (h:fm L 1 p≠-1) (hn:n∈plcD L p):Anc L p n∧dff L p=false∧nmB (sgAt L n)=true∧∀ q,Anc L q n→q=p∨Anc L q p∨dff L q=false:=by
 have hr:=(plcD_piece h).2 n hn
 have ho:=deed_open h
 have hit:=deed_item h
 have hl:=deed_long h
 have ha:Anc L p n:=⟨ho,hr.1,by omega⟩
 have key:dff L p=false∧nmB (sgAt L n)=true∧∀ q,isW (sgAt L q) [40]=true→p < q→q < n→dff L q=false:=by
  unfold plcD at hn
  cases hlet:isW (sgAt L (p+1)) [108,101,116]
  ·cases htk:isW (sgAt L (p+1)) [116,97,107,101]
   ·rw [hlet,htk] at hn
    simp only [Bool.false_eq_true,if_false] at hn
    have names:∀ c:List UInt8,isW (sgAt L (p+1)) c=true→(c == [102,110])=false→(c == [100,111])=false→(c == [102,111,114])=false→(c == [40])=false→deedH L (fm L) ⟨c.toArray⟩ (p+2)=isE L (fm L 5 (p+2)) [41]→n∈chainP L (fm L 5 (p+2) - (p+2)).toNat (p+2)→dff L p=false∧nmB (sgAt L n)=true∧∀ q,isW (sgAt L q) [40]=true→p < q→q < n→dff L q=false:=fun c hc c1 c2 c3 c4 hd hm=>by
     obtain ⟨h1,h2,h3,h4,h5⟩:=names_at h (isW_eq hc) hd
     obtain ⟨a,b,cc⟩:=chI_names (L:=L) (fm L 5 (p+2) - (p+2)).toNat (p+2) (by omega) (by omega) (fun k h6 h7=>h4 k h6 (by omega))
     have hnr:=cc n hm
     refine ⟨dff_word hc c1 c2 c3,h4 n hnr.1 (by omega),fun q hq q1 q2=>?_⟩
     exfalso
     by_cases hq1:q=p+1
     ·subst hq1
      rw [isW_other hc c4] at hq
      cases hq
     ·have:=(nm_plain (h4 q (by omega) (by omega))).1
      rw [hq] at this
      cases this
    cases hv:isW (sgAt L (p+1)) [118,97,114,115]
    ·cases hh:isW (sgAt L (p+1)) [104,105,100,100,101,110]
     ·rw [hv,hh] at hn
      cases hn
     ·rw [hv,hh] at hn
      exact names _ hh (by decide) (by decide) (by decide) (by decide) deedH_hidden hn
    ·rw [hv] at hn
     exact names _ hv (by decide) (by decide) (by decide) (by decide) deedH_vars hn
   ·rw [hlet,htk] at hn
    simp only [Bool.false_eq_true,if_false,if_true] at hn
    obtain ⟨h1,h2,h3,h4,h5,h6⟩:=take_at h (isW_eq htk)
    obtain ⟨a,b,c⟩:=chI_names (L:=L) (fm L 5 (p+4) - (p+3)).toNat (p+3) (by omega) (by omega) (fun k h7 h8=>h4 k h7 (by omega))
    have hnr:=c n hn
    refine ⟨dff_word htk (by decide) (by decide) (by decide),h4 n hnr.1 (by omega),fun q hq q1 q2=>?_⟩
    by_cases hq1:q=p+1
    ·subst hq1
     rw [isW_other htk (by decide)] at hq
     cases hq
    ·by_cases hq2:q=p+2
     ·subst hq2
      refine dff_nm ?_
      rw [show p+2+1=p+3 by omega]
      exact h4 (p+3) (Int.le_refl _) (by omega)
     ·have:=(nm_plain (h4 q (by omega) (by omega))).1
      rw [hq] at this
      cases this
  ·rw [hlet] at hn
   simp only [if_true,List.mem_singleton] at hn
   subst hn
   obtain ⟨h1,h2,h3⟩:=let_at h (isW_eq hlet)
   refine ⟨dff_word hlet (by decide) (by decide) (by decide),h1,fun q hq q1 q2=>?_⟩
   have:q=p+1:=by omega
   subst this
   rw [isW_other hlet (by decide)] at hq
   cases hq
 refine ⟨ha,key.1,key.2.1,fun q hq=>?_⟩
 by_cases h1:q < p
 ·exact Or.inr (Or.inl ⟨hq.1,h1,by have:=hq.2.2;omega⟩)
 ·by_cases h2:q=p
  ·exact Or.inl h2
  ·exact Or.inr (Or.inr (key.2.2 q hq.1 (by omega) hq.2.1))
theorem ow_deed (hd:fm L 1 p≠-1) (hpar:∀ q,Anc L q p↔(Anc L q o∨q=o)) (ho:dff L o=true) (hn:n∈plcD L p):Ow L o n:=by
 obtain ⟨h1,h2,_,h3⟩:=dec_anc hd hn
 refine ⟨Or.inr ⟨anc_trans ((hpar o).2 (Or.inr rfl)) h1,ho⟩,fun q hq hdq=>?_⟩
 rcases h3 q hq with rfl | h4 | h4
 ·rw [h2] at hdq
  cases hdq
 ·rcases (hpar q).1 h4 with h5 | rfl
  ·have:=h5.2.1
   omega
  ·exact Int.le_refl _
 ·rw [h4] at hdq
  cases hdq
theorem ow_top (hd:fm L 1 p≠-1) (hpar:∀ q,¬ Anc L q p) (hn:n∈plcD L p):Ow L (-1) n:=by
 obtain ⟨h1,h2,_,h3⟩:=dec_anc hd hn
 refine ⟨Or.inl rfl,fun q hq hdq=>?_⟩
 rcases h3 q hq with rfl | h4 | h4
 ·rw [h2] at hdq
  cases hdq
 ·exact absurd h4 (hpar q)
 ·rw [h4] at hdq
  cases hdq
theorem ow_child (hpar:∀ q,Anc L q n↔(Anc L q o∨q=o)) (ho:dff L o=true):Ow L o n:=by
 refine ⟨Or.inr ⟨(hpar o).2 (Or.inr rfl),ho⟩,fun q hq _=>?_⟩
 rcases (hpar q).1 hq with h1 | rfl
 ·have:=h1.2.1
  omega
 ·exact Int.le_refl _
theorem chI_app:∀ j k a,chI L j a x→chI L k x e→chI L (j+k) a e∧chainP L (j+k) a=chainP L j a++chainP L k x
 | 0,k,a,h,g=>by
  have:a=x:=h
  subst this
  rw [Nat.zero_add]
  exact ⟨g,rfl⟩
 | j+1,k,a,h,g=>by
  obtain ⟨h1,h2⟩:=chI_app j k _ h.2 g
  rw [show j+1+k=(j+k)+1 by omega]
  refine ⟨⟨h.1,h1⟩,?_⟩
  show a :: chainP L (j+k) (itemE L a)=a :: (chainP L j (itemE L a)++chainP L k x)
  rw [h2]
end
theorem fst_in {L:List ByteArray} {P:List Int} {s:ByteArray} (hP:∀ p∈P,0≤p):inB (P.map (sgAt L)) s=decide (0≤Q.fstP L P s):=by
 rcases Q.fst_found (L:=L) (s:=s) hP with ⟨h0,p,h1,h2⟩ | ⟨h0,h1⟩
 ·rw [decide_eq_true h0]
  unfold inB
  rw [List.any_eq_true]
  have hm:=List.mem_of_find?_eq_some h1
  have hf:=List.find?_some h1
  exact ⟨sgAt L p,List.mem_map.mpr ⟨p,hm,rfl⟩,hf⟩
 ·rw [decide_eq_false (by omega)]
  unfold inB
  rw [List.any_eq_false]
  intro y hy
  obtain ⟨p,hp,rfl⟩:=List.mem_map.mp hy
  exact List.find?_eq_none.mp h1 p hp
theorem outs_us (f:Int→Q.Ot):∀ ps,(Q.outs f ps).us=ps.flatMap fun p=>(f p).us
 | []=>rfl
 | p :: ps=>by
  show ((f p).add (Q.outs f ps)).us=_
  show (f p).us++(Q.outs f ps).us=_
  rw [outs_us f ps,List.flatMap_cons]
end Go.Proofs.YtdgihicpjonjgaaGreatDoor
namespace Go.Proofs.YtdgihicpjonjgaaGreatDoor
open Go.RowKit
def kpB (L:List ByteArray) (F:Nat→Bool) (q:Int):Bool:=isW (sgAt L q) [40] && (fnB L q || (isW (sgAt L (q+1)) [100,111] && F q.toNat))
theorem kp_dff {L:List ByteArray} {F:Nat→Bool} {q:Int} (h:dff L q=false):kpB L F q=false:=by
 cases hc:kpB L F q
 ·rfl
 ·unfold kpB fnB at hc
  rw [Bool.and_eq_true,Bool.or_eq_true] at hc
  rcases hc.2 with h1 | h1
  ·rw [dff_fn h1] at h
   cases h
  ·rw [Bool.and_eq_true] at h1
   rw [dff_do h1.1] at h
   cases h
structure Sb where
 x:Int
 B:Q.Blks
 m:Nat
 n:Nat
 lp:Bool
def SbOk (L:List ByteArray) (i:Int) (t:Sb):Prop:=ItV L t.x∧Anc L i t.x∧(∀ Z∈t.B,(∀ n∈Z.1,0≤n∧Ow L i n)∧∀ n∈Z.2,0≤n∧Ow L i n)∧(∀ q,Anc L q t.x→i < q→dff L q=false)∧2 * farN L t.x+1≤t.m∧2 * farN L t.x≤t.n∧farN L t.x < farN L i
structure Strc (L:List ByteArray) (F:Nat→Bool) (i:Int) (m n:Nat) (E:Q.Blks) (lp:Bool) (pre:List (Int × Int × Bool)) (Sub:List Sb):Prop where
 wkE:(Q.wk L m 0 false i ⟨E,lp⟩).us=pre++Sub.flatMap fun t=>(Q.wk L t.m 0 false t.x ⟨E++t.B,t.lp⟩).us
 preE:∀ u∈pre,i≤u.1∧u.1 < itemE L i∧u.2.1=Q.resQ L u.2.2 E (sgAt L u.1)∧∀ q,Anc L q u.1→i≤q→dff L q=false
 okE:∀ t∈Sub,SbOk L i t
 apartE:Sub.Pairwise fun t t'=>itemE L t.x≤t'.x
 coverE:∀ d,i < d→d < itemE L i→doB L d=true→∃ t∈Sub,t.x≤d∧d < itemE L t.x
 usE:∀ s fn,nmB s=true→(us L F n 0 i s fn=true↔(∃ u∈pre,u.2.2=false∧sgAt L u.1=s∧fn=true)∨∃ t∈Sub,(∀ Z∈t.B,¬ 0≤Q.fstP L Z.1 s)∧us L F t.n 0 t.x s (fn || kpB L F i)=true)
theorem eqS_iff {x s:ByteArray}:eqS x s=true↔x=s:=Q.eqT_iff
section
variable {L:List ByteArray} {F:Nat→Bool} {i a e:Int}
theorem chainV_pair:∀ k a,chainV L k a e→0≤e→(chainP L k a).Pairwise fun x y=>itemE L x≤y
 | 0,_,_,_=>List.Pairwise.nil
 | k+1,a,h,he=>by
  refine List.Pairwise.cons (fun y hy=>?_) (chainV_pair k _ h.2 he)
  exact (chainP_lt k _ h.2 he y hy).1
theorem do_open {d:Int} (h:doB L d=true):isW (sgAt L d) [40]=true∧isW (sgAt L (d+1)) [100,111]=true:=by
 unfold doB at h
 rw [Bool.and_eq_true] at h
 exact h
theorem do_not {d:Int} (h:isW (sgAt L d) [40]=false):doB L d=false:=by
 unfold doB
 rw [h]
 rfl
theorem do_nm {d:Int} (h:nmB (sgAt L (d+1))=true):doB L d=false:=by
 unfold doB
 have:=nm_dw h
 unfold dwB at this
 rw [Bool.or_eq_false_iff] at this
 rw [this.1,Bool.and_false]
theorem strc_plain {j k m n:Nat} {E:Q.Blks} {lp:Bool} {pre:List (Int × Int × Bool)} (ho:isW (sgAt L i) [40]=true) (hj:chI L j (i+1) a) (hk:chainV L k a e) (he:isW (sgAt L e) [41]=true) (hit:itemE L i=e+1) (hnd:∀ d,i < d→d < a→doB L d=false) (hdf:dff L i=false)
  (hm:2 * farN L i+1≤m+1) (hn:2 * farN L i≤n+2) (lps:Int→Bool)
  (hwk:(Q.wk L (m+1) 0 false i ⟨E,lp⟩).us=pre++(chainP L k a).flatMap fun x=>(Q.wk L m 0 false x ⟨E,lps x⟩).us)
  (hpre:∀ u∈pre,u.1∈chainP L j (i+1)∧u.2.1=Q.resQ L u.2.2 E (sgAt L u.1))
  (hus:∀ s fn,nmB s=true→(us L F (n+2) 0 i s fn=true↔(∃ u∈pre,u.2.2=false∧sgAt L u.1=s∧fn=true)∨∃ x∈chainP L k a,us L F n 0 x s fn=true)) :
  Strc L F i (m+1) (n+2) E lp pre ((chainP L k a).map fun x=>⟨x,[],m,n,lps x⟩):=by
 have hse:=sgAt_shut he
 have h0:=(sgAt_open ho).1
 have hkI:=chI_V k a hk
 obtain ⟨hc,hP⟩:=chI_app j k _ hj hkI
 have hae:=chI_ends k a hkI hse.1
 have hlt:=chainP_lt k a hk hse.1
 have hmem:∀ x,x∈chainP L k a→x∈chainP L (j+k) (i+1):=fun x hx=>by rw [hP];exact List.mem_append.mpr (Or.inr hx)
 have hmem2:∀ x,x∈chainP L j (i+1)→x∈chainP L (j+k) (i+1):=fun x hx=>by rw [hP];exact List.mem_append.mpr (Or.inl hx)
 have hall:=chI_in (j+k) _ hc hse.1
 refine ⟨?_,fun u hu=>?_,fun t ht=>?_,?_,fun d d1 d2 d3=>?_,fun s fn hs=>?_⟩
 ·rw [hwk]
  congr 1
  rw [List.flatMap_map]
  simp only [List.append_nil]
 ·obtain ⟨p1,p2⟩:=hpre u hu
  have hc1:=hall _ (hmem2 _ p1)
  have hu2:=itemE_up hc1.2.2.1
  refine ⟨by omega,by omega,p2,fun q hq hqi=>?_⟩
  rcases (anc_child ho hc hse.1 hit (hmem2 _ p1)).1 hq with h1 | rfl
  ·have:=h1.2.1
   omega
  ·exact hdf
 ·obtain ⟨x,hx,rfl⟩:=List.mem_map.mp ht
  obtain ⟨c1,c2,c3,c4⟩:=hlt x hx
  have hi1:=hall x (hmem x hx)
  have hfar:=far_lt (L:=L) (i:=i) (j:=x) h0 (by omega) (by omega)
  refine ⟨c3,(anc_child ho hc hse.1 hit (hmem x hx)).2 (Or.inr rfl),(fun Z hZ=>by cases hZ),fun q hq hqi=>?_,?_,?_,?_⟩
  ·rcases (anc_child ho hc hse.1 hit (hmem x hx)).1 hq with h1 | rfl
   ·have:=h1.2.1
    omega
   ·omega
  ·show 2 * farN L x+1≤m
   omega
  ·show 2 * farN L x≤n
   omega
  ·show farN L x < farN L i
   omega
 ·rw [List.pairwise_map]
  exact chainV_pair k a hk hse.1
 ·by_cases hda:d < a
  ·rw [hnd d d1 hda] at d3
   cases d3
  ·have hde:d≠e:=fun h=>by
    rw [h] at d3
    rw [do_not (isW_other he (by decide))] at d3
    cases d3
   obtain ⟨c,cm,c1,c2,c3⟩:=chI_find (q:=d) k a hkI (by omega) (by omega)
   exact ⟨_,List.mem_map.mpr ⟨c,cm,rfl⟩,c1,c2⟩
 ·rw [hus s fn hs,kp_dff hdf,Bool.or_false]
  constructor
  ·rintro (h1 | ⟨x,hx,h1⟩)
   ·exact Or.inl h1
   ·exact Or.inr ⟨_,List.mem_map.mpr ⟨x,hx,rfl⟩,(fun Z hZ=>by cases hZ),h1⟩
  ·rintro (h1 | ⟨t,ht,_,h1⟩)
   ·exact Or.inl h1
   ·obtain ⟨x,hx,rfl⟩:=List.mem_map.mp ht
    exact Or.inr ⟨x,hx,h1⟩
end
section
variable {L:List ByteArray} {F:Nat→Bool} {i:Int} (r:Nat→Int→ByteArray→Bool→Bool) (s:ByteArray) (fn:Bool)
theorem usw_let (ho:isW (sgAt L i) [40]=true) (hc:isW (sgAt L (i+1)) [108,101,116]=true):usI L F r i s fn=r 1 (i+3) s fn:=by
 unfold usI
 rw [ho,isW_eq hc]
 simp only [isW_lit]
 rfl
theorem usw_hget (ho:isW (sgAt L i) [40]=true) (hc:isW (sgAt L (i+1)) [104,103,101,116]=true):usI L F r i s fn=r 1 (i+3) s fn:=by
 unfold usI
 rw [ho,isW_eq hc]
 simp only [isW_lit]
 rfl
theorem usw_hput (ho:isW (sgAt L i) [40]=true) (hc:isW (sgAt L (i+1)) [104,112,117,116]=true):usI L F r i s fn=r 1 (i+3) s fn:=by
 unfold usI
 rw [ho,isW_eq hc]
 simp only [isW_lit]
 rfl
theorem usw_set (ho:isW (sgAt L i) [40]=true) (hc:isW (sgAt L (i+1)) [115,101,116]=true):usI L F r i s fn=(if fn && eqS (sgAt L (i+2)) s then true else r 1 (i+3) s fn):=by
 unfold usI
 rw [ho,isW_eq hc]
 simp only [isW_lit]
 rfl
theorem usw_take (ho:isW (sgAt L i) [40]=true) (hc:isW (sgAt L (i+1)) [116,97,107,101]=true):usI L F r i s fn=r 1 (itemE L (i+2)) s fn:=by
 unfold usI
 rw [ho,isW_eq hc]
 simp only [isW_lit]
 rfl
theorem usw_hidden (ho:isW (sgAt L i) [40]=true) (hc:isW (sgAt L (i+1)) [104,105,100,100,101,110]=true):usI L F r i s fn=false:=by
 unfold usI
 rw [ho,isW_eq hc]
 simp only [isW_lit]
 rfl
theorem usw_vars (ho:isW (sgAt L i) [40]=true) (hc:isW (sgAt L (i+1)) [118,97,114,115]=true):usI L F r i s fn=false:=by
 unfold usI
 rw [ho,isW_eq hc]
 simp only [isW_lit]
 rfl
theorem usw_while (ho:isW (sgAt L i) [40]=true) (hc:isW (sgAt L (i+1)) [119,104,105,108,101]=true):usI L F r i s fn=r 1 (i+2) s fn:=by
 unfold usI
 rw [ho,isW_eq hc]
 simp only [isW_lit]
 rfl
theorem usw_leave (ho:isW (sgAt L i) [40]=true) (hc:isW (sgAt L (i+1)) [108,101,97,118,101]=true):usI L F r i s fn=r 1 (i+2) s fn:=by
 unfold usI
 rw [ho,isW_eq hc]
 simp only [isW_lit]
 rfl
theorem usw_next (ho:isW (sgAt L i) [40]=true) (hc:isW (sgAt L (i+1)) [110,101,120,116]=true):usI L F r i s fn=r 1 (i+2) s fn:=by
 unfold usI
 rw [ho,isW_eq hc]
 simp only [isW_lit]
 rfl
theorem usw_do (ho:isW (sgAt L i) [40]=true) (hc:isW (sgAt L (i+1)) [100,111]=true):usI L F r i s fn=(if inB (decN L (i+2)) s then false else r 1 (i+2) s (fn || F i.toNat)):=by
 unfold usI
 rw [ho,isW_eq hc]
 simp only [isW_lit]
 rfl
theorem usw_for (ho:isW (sgAt L i) [40]=true) (hc:isW (sgAt L (i+1)) [102,111,114]=true):usI L F r i s fn=(if r 0 (i+3) s fn || r 0 (itemE L (i+3)) s fn then true else !eqS (sgAt L (i+2)) s && r 0 (itemE L (itemE L (i+3))) s fn):=by
 unfold usI
 rw [ho,isW_eq hc]
 simp only [isW_lit]
 rfl
theorem usw_fn (ho:isW (sgAt L i) [40]=true) (hc:isW (sgAt L (i+1)) [102,110]=true):usI L F r i s fn=(if inB ((plc L (i+3)).map (parN L)) s then false else if (plc L (i+3)).any (fun p=>isW (sgAt L p) [40] && r 0 (p+2) s true) then true else if inB (decN L (bodyI L i)) s then false else r 1 (bodyI L i) s true):=by
 unfold usI
 rw [ho,isW_eq hc]
 simp only [isW_lit]
 rfl
end
section
variable {L:List ByteArray} {F:Nat→Bool} {i:Int} {m n:Nat} {E:Q.Blks} {lp:Bool}
theorem deed_of {c:List UInt8} (hv:ItV L i) (ho:isW (sgAt L i) [40]=true) (hc:isW (sgAt L (i+1)) c=true) (h1:openF c 1=none):fm L 1 i≠-1:=by
 rcases hv with h | h
 ·exfalso
  have he:=endW_open (L:=L) (i:=i) 1 (by decide) ho
  rw [isW_eq hc,lit_list,h1] at he
  exact h he
 ·exact h
theorem any_us (n:Nat) (a:Int) (s:ByteArray) (fn:Bool) {k:Nat} {e:Int} (hk:chainV L k a e) (he:isW (sgAt L e) [41]=true):us L F (n+1) 1 a s fn=true↔∃ x∈chainP L k a,us L F n 0 x s fn=true:=by
 have hse:=sgAt_shut he
 show (plc L a).any _=true↔_
 rw [plc_chain hk hse.1 (by omega) (endB_shut he),List.any_eq_true]
theorem none_pre {s:ByteArray} {fn:Bool}:¬ ∃ u∈([]:List (Int × Int × Bool)),u.2.2=false∧sgAt L u.1=s∧fn=true:=fun ⟨_,h,_⟩=>by cases h
theorem name_one (hv:ItV L i) (ho:isW (sgAt L i) [40]=true) (h1:nmB (sgAt L (i+2))=true) (h2:i+2 < (L.length:Int)):chI L 2 (i+1) (i+3)∧(∀ d,i < d→d < i+3→doB L d=false)∧i+2∈chainP L 2 (i+1):=by
 have hit:=(hv.parts ho).1
 have hp:=hv.plain ho
 have h0:=(sgAt_open ho).1
 have hn:itemE L (i+2)=i+3:=by
  rw [item_one (by omega) h2 (nm_plain h1)]
  omega
 refine ⟨⟨by omega,by rw [hit];exact ⟨by omega,hn⟩⟩,fun d d1 d2=>?_,?_⟩
 ·by_cases hd:d=i+1
  ·subst hd
   exact do_not hp.1
  ·have:d=i+2:=by omega
   subst this
   exact do_not (nm_plain h1).1
 ·show i+2∈[i+1,itemE L (i+1)]
  rw [hit]
  simp
theorem word_one (hv:ItV L i) (ho:isW (sgAt L i) [40]=true):chI L 1 (i+1) (i+2)∧∀ d,i < d→d < i+2→doB L d=false:=by
 have hit:=(hv.parts ho).1
 have hp:=hv.plain ho
 have h0:=(sgAt_open ho).1
 refine ⟨⟨by omega,hit⟩,fun d d1 d2=>?_⟩
 have:d=i+1:=by omega
 subst this
 exact do_not hp.1
theorem name_end1 (h:ItV L i) (ho:isW (sgAt L i) [40]=true) (c:List UInt8) (hc:isW (sgAt L (i+1)) c=true) (hcs:c=[108,101,116]∨c=[115,101,116]) :
  i+2 < (L.length:Int)∧nmB (sgAt L (i+2))=true∧∃ e,chainV L 1 (i+3) e∧isW (sgAt L e) [41]=true∧itemE L i=e+1:=by
 have hw:closeE L ([4,1],none) (i+2)≠-1∧itemE L i=closeE L ([4,1],none) (i+2):=by
  rcases hcs with rfl | rfl
  ·exact h.word ho _ _ hc (Or.inr rfl) (Or.inl rfl)
  ·exact h.word ho _ _ hc (Or.inr rfl) (Or.inl rfl)
 obtain ⟨c1,c2,c3,c4⟩:=close_pos hw.1
 have e1:restE L none (partsE L [4,1] (i+2))=endW L 1 (endW L 4 (i+2)):=rfl
 simp only at c1 c2 c3 c4
 rw [e1] at c1 c2 c3 c4
 have hn:endW L 4 (i+2)≠-1:=fun he=>by rw [he,endW_neg] at c2;omega
 have hp:=nm_pos hn
 rw [hp.1,show i+2+1=i+3 by omega] at c1 c2 c3 c4
 have hs:=endW_it (L:=L) (i:=i+3) (w:=1) (Or.inl rfl) (by omega)
 exact ⟨hp.2.2.2,hp.2.1,_,⟨hs.1,hs.2⟩,c4,by rw [hw.2,c1]⟩
theorem strc_leaf (hv:ItV L i) (ho:isW (sgAt L i) [40]=false):∃ pre Sub,Strc L F i (m+1) (n+2) E lp pre Sub:=by
 have hve:=hv.ends
 have hit:itemE L i=i+1:=item_plain (by omega) ho
 refine ⟨if nmB (sgAt L i) then [(i,Q.resQ L false E (sgAt L i),false)] else [],[],?_,fun u hu=>?_,(fun t ht=>by cases ht),List.Pairwise.nil,(fun d d1 d2 _=>by omega),fun s fn hs=>?_⟩
 ·have:(Q.wk L (m+1) 0 false i ⟨E,lp⟩)=if nmB (sgAt L i) then Q.useO L ⟨E,lp⟩ i else Q.Ot.none:=Q.itw_alone (Q.wk L m) ⟨E,lp⟩ ho
  rw [this]
  cases nmB (sgAt L i) <;> rfl
 ·split at hu
  ·rw [List.mem_singleton] at hu
   subst hu
   refine ⟨Int.le_refl _,by simp only;omega,rfl,fun q hq hqi=>?_⟩
   have:=hq.2.1
   simp only at this
   omega
  ·cases hu
 ·have hu:us L F (n+2) 0 i s fn=(fn && eqS (sgAt L i) s):=by
   show usI L F _ i s fn=_
   unfold usI
   rw [ho]
   rfl
  rw [hu,Bool.and_eq_true,eqS_iff]
  constructor
  ·rintro ⟨h1,h2⟩
   left
   rw [h2,hs,if_pos rfl]
   exact ⟨_,List.mem_singleton.mpr rfl,rfl,h2,h1⟩
  ·rintro (⟨u,h1,h2,h3,h4⟩ | ⟨t,ht,_⟩)
   ·split at h1
    ·rw [List.mem_singleton] at h1
     subst h1
     exact ⟨h4,h3⟩
    ·cases h1
   ·cases ht
theorem strc_let (hv:ItV L i) (ho:isW (sgAt L i) [40]=true) (hc:isW (sgAt L (i+1)) [108,101,116]=true) (hm:2 * farN L i+1≤m+1) (hn:2 * farN L i≤n+2):∃ pre Sub,Strc L F i (m+1) (n+2) E lp pre Sub:=by
 obtain ⟨q0,q1,e,q2,q3,q4⟩:=name_end1 hv ho _ hc (Or.inl rfl)
 obtain ⟨j1,j2,j3⟩:=name_one hv ho q1 q0
 refine ⟨[],_,strc_plain ho j1 q2 q3 q4 j2 (dff_word hc (by decide) (by decide) (by decide)) hm hn (fun _=>lp) ?_ (fun u hu=>by cases hu) fun s fn hs=>?_⟩
 ·have:Q.wk L (m+1) 0 false i ⟨E,lp⟩=Q.wk L m 0 false (i+3) ⟨E,lp⟩:=Q.itw_let (Q.wk L m) ⟨E,lp⟩ ho hc
  rw [this]
  show _=[]++[i+3].flatMap _
  simp
 ·have hu:us L F (n+2) 0 i s fn=us L F (n+1) 1 (i+3) s fn:=usw_let (us L F (n+1)) s fn ho hc
  rw [hu,any_us n _ s fn q2 q3]
  exact ⟨Or.inr,fun h=>h.resolve_left none_pre⟩
theorem strc_set (hv:ItV L i) (ho:isW (sgAt L i) [40]=true) (hc:isW (sgAt L (i+1)) [115,101,116]=true) (hm:2 * farN L i+1≤m+1) (hn:2 * farN L i≤n+2):∃ pre Sub,Strc L F i (m+1) (n+2) E lp pre Sub:=by
 obtain ⟨q0,q1,e,q2,q3,q4⟩:=name_end1 hv ho _ hc (Or.inr rfl)
 obtain ⟨j1,j2,j3⟩:=name_one hv ho q1 q0
 refine ⟨[(i+2,Q.resQ L false E (sgAt L (i+2)),false)],_,strc_plain ho j1 q2 q3 q4 j2 (dff_word hc (by decide) (by decide) (by decide)) hm hn (fun _=>lp) ?_ (fun u hu=>?_) fun s fn hs=>?_⟩
 ·have:Q.wk L (m+1) 0 false i ⟨E,lp⟩=(Q.useO L ⟨E,lp⟩ (i+2)).add (Q.wk L m 0 false (i+3) ⟨E,lp⟩):=Q.itw_set (Q.wk L m) ⟨E,lp⟩ ho hc
  rw [this]
  show _=_++[i+3].flatMap _
  simp only [List.flatMap_cons,List.flatMap_nil,List.append_nil]
  rfl
 ·rw [List.mem_singleton] at hu
  subst hu
  exact ⟨j3,rfl⟩
 ·have hu:us L F (n+2) 0 i s fn=(if fn && eqS (sgAt L (i+2)) s then true else us L F (n+1) 1 (i+3) s fn):=usw_set (us L F (n+1)) s fn ho hc
  rw [hu]
  constructor
  ·intro h
   split at h
   ·rename_i h1
    rw [Bool.and_eq_true,eqS_iff] at h1
    exact Or.inl ⟨_,List.mem_singleton.mpr rfl,rfl,h1.2,h1.1⟩
   ·exact Or.inr ((any_us n _ s fn q2 q3).1 h)
  ·rintro (⟨u,h1,h2,h3,h4⟩ | h)
   ·rw [List.mem_singleton] at h1
    subst h1
    simp only at h3
    rw [if_pos (by rw [Bool.and_eq_true,eqS_iff];exact ⟨h4,h3⟩)]
   ·split
    ·rfl
    ·exact (any_us n _ s fn q2 q3).2 h
theorem strc_take (hv:ItV L i) (ho:isW (sgAt L i) [40]=true) (hc:isW (sgAt L (i+1)) [116,97,107,101]=true) (hm:2 * farN L i+1≤m+1) (hn:2 * farN L i≤n+2):∃ pre Sub,Strc L F i (m+1) (n+2) E lp pre Sub:=by
 have hd:=deed_of hv ho hc rfl
 obtain ⟨t1,t2,t3,t4,t5,t6⟩:=take_at hd (isW_eq hc)
 obtain ⟨s1,s2,s3,s4⟩:=hv.take_sum ho hc
 have hl:=deed_long hd
 have hk:=skips_names (L:=L) (fm L 5 (i+4) - (i+3)).toNat (i+3) (fm L 5 (i+4)) (by omega) (by omega) (by omega) t4
 obtain ⟨o0,o1⟩:=sgAt_open t5
 have hit2:=(skips_wrap (i:=i+2) (x:=fm L 5 (i+4)) o0 o1 t5 (by rw [show i+2+1=i+3 by omega];exact hk) t2 t3).2
 have hit:=(hv.parts ho).1
 have hp:=hv.plain ho
 have hw:=hv.word ho _ ([5,1],none) hc (Or.inr rfl) (Or.inl rfl)
 obtain ⟨c1,c2,c3,c4⟩:=close_pos hw.1
 have d1:closeE L ([5,1],none) (i+2)=endW L 1 (endW L 5 (i+2))+1:=c1
 have d2:0≤endW L 1 (endW L 5 (i+2)):=c2
 have d4:isW (sgAt L (endW L 1 (endW L 5 (i+2)))) [41]=true:=c4
 have e5:endW L 5 (i+2)=itemE L (i+2):=by
  rw [hit2]
  show isE L (fm L 5 (nmE L (isE L (i+2) [40]))) [41]=_
  have hnm:nmE L (i+2+1)=i+4:=by
   unfold nmE
   rw [show i+2+1=i+3 by omega,t4 (i+3) (Int.le_refl _) (by omega)]
   simp
   omega
  rw [isE_is t5,hnm,isE_is t3]
 rw [e5] at d1 d2 d4
 have hs:=endW_it (L:=L) (i:=itemE L (i+2)) (w:=1) (Or.inl rfl) (by omega)
 have q2:chainV L 1 (itemE L (i+2)) (endW L 1 (itemE L (i+2))):=⟨hs.1,hs.2⟩
 have q4:itemE L i=endW L 1 (itemE L (i+2))+1:=by rw [hw.2,d1]
 have j1:chI L 2 (i+1) (itemE L (i+2)):=⟨by omega,by rw [hit];exact ⟨by omega,rfl⟩⟩
 have j2:∀ d,i < d→d < itemE L (i+2)→doB L d=false:=fun d e1 e2=>by
  by_cases h1:d=i+1
  ·subst h1
   exact do_not hp.1
  ·by_cases h2:d=i+2
   ·subst h2
    refine do_nm ?_
    rw [show i+2+1=i+3 by omega]
    exact t4 (i+3) (Int.le_refl _) (by omega)
   ·by_cases h3:d=fm L 5 (i+4)
    ·subst h3
     exact do_not (isW_other t3 (by decide))
    ·exact do_not (nm_plain (t4 d (by omega) (by omega))).1
 refine ⟨[],_,strc_plain ho j1 q2 d4 q4 j2 (dff_word hc (by decide) (by decide) (by decide)) hm hn (fun _=>lp) ?_ (fun u hu=>by cases hu) fun s fn hs=>?_⟩
 ·have:Q.wk L (m+1) 0 false i ⟨E,lp⟩=Q.wk L m 0 false (itemE L (i+2)) ⟨E,lp⟩:=Q.itw_take (Q.wk L m) ⟨E,lp⟩ ho hc
  rw [this]
  show _=[]++[itemE L (i+2)].flatMap _
  simp
 ·have hu:us L F (n+2) 0 i s fn=us L F (n+1) 1 (itemE L (i+2)) s fn:=usw_take (us L F (n+1)) s fn ho hc
  rw [hu,any_us n _ s fn q2 d4]
  exact ⟨Or.inr,fun h=>h.resolve_left none_pre⟩
theorem strc_hget (hv:ItV L i) (ho:isW (sgAt L i) [40]=true) (hc:isW (sgAt L (i+1)) [104,103,101,116]=true) (hm:2 * farN L i+1≤m+1) (hn:2 * farN L i≤n+2):∃ pre Sub,Strc L F i (m+1) (n+2) E lp pre Sub:=by
 obtain ⟨q0,q1,k,e,q2,q3,q4⟩:=hv.name_sums ho _ hc (Or.inl rfl)
 obtain ⟨j1,j2,j3⟩:=name_one hv ho q1 q0
 have hse:=sgAt_shut q3
 refine ⟨[(i+2,Q.resQ L true E (sgAt L (i+2)),true)],_,strc_plain ho j1 q2 q3 q4 j2 (dff_word hc (by decide) (by decide) (by decide)) hm hn (fun _=>lp) ?_ (fun u hu=>?_) fun s fn hs=>?_⟩
 ·have:Q.wk L (m+1) 0 false i ⟨E,lp⟩=(Q.hideO L ⟨E,lp⟩ (i+2)).add (Q.outs (fun p=>Q.wk L m 0 false p ⟨E,lp⟩) (plc L (i+3))):=Q.itw_hget (Q.wk L m) ⟨E,lp⟩ ho hc
  rw [this,plc_chain q2 hse.1 (by omega) (endB_shut q3)]
  show _++(Q.outs _ _).us=_
  rw [outs_us]
  rfl
 ·rw [List.mem_singleton] at hu
  subst hu
  exact ⟨j3,rfl⟩
 ·have hu:us L F (n+2) 0 i s fn=us L F (n+1) 1 (i+3) s fn:=usw_hget (us L F (n+1)) s fn ho hc
  rw [hu,any_us n _ s fn q2 q3]
  refine ⟨Or.inr,fun h=>h.resolve_left ?_⟩
  rintro ⟨u,h1,h2,_⟩
  rw [List.mem_singleton] at h1
  subst h1
  cases h2
theorem strc_hput (hv:ItV L i) (ho:isW (sgAt L i) [40]=true) (hc:isW (sgAt L (i+1)) [104,112,117,116]=true) (hm:2 * farN L i+1≤m+1) (hn:2 * farN L i≤n+2):∃ pre Sub,Strc L F i (m+1) (n+2) E lp pre Sub:=by
 obtain ⟨q0,q1,k,e,q2,q3,q4⟩:=hv.name_sums ho _ hc (Or.inr rfl)
 obtain ⟨j1,j2,j3⟩:=name_one hv ho q1 q0
 have hse:=sgAt_shut q3
 refine ⟨[(i+2,Q.resQ L true E (sgAt L (i+2)),true)],_,strc_plain ho j1 q2 q3 q4 j2 (dff_word hc (by decide) (by decide) (by decide)) hm hn (fun _=>lp) ?_ (fun u hu=>?_) fun s fn hs=>?_⟩
 ·have:Q.wk L (m+1) 0 false i ⟨E,lp⟩=(Q.hideO L ⟨E,lp⟩ (i+2)).add (Q.outs (fun p=>Q.wk L m 0 false p ⟨E,lp⟩) (plc L (i+3))):=Q.itw_hput (Q.wk L m) ⟨E,lp⟩ ho hc
  rw [this,plc_chain q2 hse.1 (by omega) (endB_shut q3)]
  show _++(Q.outs _ _).us=_
  rw [outs_us]
  rfl
 ·rw [List.mem_singleton] at hu
  subst hu
  exact ⟨j3,rfl⟩
 ·have hu:us L F (n+2) 0 i s fn=us L F (n+1) 1 (i+3) s fn:=usw_hput (us L F (n+1)) s fn ho hc
  rw [hu,any_us n _ s fn q2 q3]
  refine ⟨Or.inr,fun h=>h.resolve_left ?_⟩
  rintro ⟨u,h1,h2,_⟩
  rw [List.mem_singleton] at h1
  subst h1
  cases h2
theorem strc_hidden (hv:ItV L i) (ho:isW (sgAt L i) [40]=true) (hc:isW (sgAt L (i+1)) [104,105,100,100,101,110]=true):∃ pre Sub,Strc L F i (m+1) (n+2) E lp pre Sub:=by
 have hd:=deed_of hv ho hc rfl
 obtain ⟨h1,h2,h3,h4,h5⟩:=names_at hd (isW_eq hc) deedH_hidden
 have hp:=hv.plain ho
 have hdi:=deed_item hd
 refine ⟨[],[],?_,(fun u hu=>by cases hu),(fun t ht=>by cases ht),List.Pairwise.nil,fun d d1 d2 d3=>?_,fun s fn hs=>?_⟩
 ·have:Q.wk L (m+1) 0 false i ⟨E,lp⟩=Q.Ot.none:=Q.itw_hidden (Q.wk L m) ⟨E,lp⟩ ho hc
  rw [this]
  rfl
 ·exfalso
  have key:doB L d=false:=by
   by_cases e1:d=i+1
   ·subst e1
    exact do_not hp.1
   ·by_cases e2:d=fm L 5 (i+2)
    ·subst e2
     exact do_not (isW_other h3 (by decide))
    ·exact do_not (nm_plain (h4 d (by omega) (by omega))).1
  rw [key] at d3
  cases d3
 ·have hu:us L F (n+2) 0 i s fn=false:=usw_hidden (us L F (n+1)) s fn ho hc
  rw [hu]
  refine ⟨(fun h=>by cases h),?_⟩
  rintro (⟨u,h,_⟩ | ⟨t,h,_⟩)
  ·cases h
  ·cases h
theorem strc_vars (hv:ItV L i) (ho:isW (sgAt L i) [40]=true) (hc:isW (sgAt L (i+1)) [118,97,114,115]=true):∃ pre Sub,Strc L F i (m+1) (n+2) E lp pre Sub:=by
 have hd:=deed_of hv ho hc rfl
 obtain ⟨h1,h2,h3,h4,h5⟩:=names_at hd (isW_eq hc) deedH_vars
 have hp:=hv.plain ho
 have hdi:=deed_item hd
 refine ⟨[],[],?_,(fun u hu=>by cases hu),(fun t ht=>by cases ht),List.Pairwise.nil,fun d d1 d2 d3=>?_,fun s fn hs=>?_⟩
 ·have:Q.wk L (m+1) 0 false i ⟨E,lp⟩=Q.Ot.none:=Q.itw_vars (Q.wk L m) ⟨E,lp⟩ ho hc
  rw [this]
  rfl
 ·exfalso
  have key:doB L d=false:=by
   by_cases e1:d=i+1
   ·subst e1
    exact do_not hp.1
   ·by_cases e2:d=fm L 5 (i+2)
    ·subst e2
     exact do_not (isW_other h3 (by decide))
    ·exact do_not (nm_plain (h4 d (by omega) (by omega))).1
  rw [key] at d3
  cases d3
 ·have hu:us L F (n+2) 0 i s fn=false:=usw_vars (us L F (n+1)) s fn ho hc
  rw [hu]
  refine ⟨(fun h=>by cases h),?_⟩
  rintro (⟨u,h,_⟩ | ⟨t,h,_⟩)
  ·cases h
  ·cases h
theorem strc_leave (hv:ItV L i) (ho:isW (sgAt L i) [40]=true) (hc:isW (sgAt L (i+1)) [108,101,97,118,101]=true) (hm:2 * farN L i+1≤m+1) (hn:2 * farN L i≤n+2):∃ pre Sub,Strc L F i (m+1) (n+2) E lp pre Sub:=by
 have hw:=hv.word ho _ ([],none) hc (Or.inr rfl) (Or.inl rfl)
 obtain ⟨c1,c2,c3,c4⟩:=close_pos hw.1
 have d1:closeE L ([],none) (i+2)=i+2+1:=c1
 have d4:isW (sgAt L (i+2)) [41]=true:=c4
 obtain ⟨j1,j2⟩:=word_one hv ho
 have q2:chainV L 0 (i+2) (i+2):=rfl
 refine ⟨[],_,strc_plain ho j1 q2 d4 (by rw [hw.2,d1]) j2 (dff_word hc (by decide) (by decide) (by decide)) hm hn (fun _=>lp) ?_ (fun u hu=>by cases hu) fun s fn hs=>?_⟩
 ·have:Q.wk L (m+1) 0 false i ⟨E,lp⟩=Q.badO (!lp):=Q.itw_leave (Q.wk L m) ⟨E,lp⟩ ho hc
  rw [this]
  rfl
 ·have hu:us L F (n+2) 0 i s fn=us L F (n+1) 1 (i+2) s fn:=usw_leave (us L F (n+1)) s fn ho hc
  rw [hu,any_us n _ s fn q2 d4]
  exact ⟨Or.inr,fun h=>h.resolve_left none_pre⟩
theorem strc_next (hv:ItV L i) (ho:isW (sgAt L i) [40]=true) (hc:isW (sgAt L (i+1)) [110,101,120,116]=true) (hm:2 * farN L i+1≤m+1) (hn:2 * farN L i≤n+2):∃ pre Sub,Strc L F i (m+1) (n+2) E lp pre Sub:=by
 have hw:=hv.word ho _ ([],none) hc (Or.inr rfl) (Or.inl rfl)
 obtain ⟨c1,c2,c3,c4⟩:=close_pos hw.1
 have d1:closeE L ([],none) (i+2)=i+2+1:=c1
 have d4:isW (sgAt L (i+2)) [41]=true:=c4
 obtain ⟨j1,j2⟩:=word_one hv ho
 have q2:chainV L 0 (i+2) (i+2):=rfl
 refine ⟨[],_,strc_plain ho j1 q2 d4 (by rw [hw.2,d1]) j2 (dff_word hc (by decide) (by decide) (by decide)) hm hn (fun _=>lp) ?_ (fun u hu=>by cases hu) fun s fn hs=>?_⟩
 ·have:Q.wk L (m+1) 0 false i ⟨E,lp⟩=Q.badO (!lp):=Q.itw_next (Q.wk L m) ⟨E,lp⟩ ho hc
  rw [this]
  rfl
 ·have hu:us L F (n+2) 0 i s fn=us L F (n+1) 1 (i+2) s fn:=usw_next (us L F (n+1)) s fn ho hc
  rw [hu,any_us n _ s fn q2 d4]
  exact ⟨Or.inr,fun h=>h.resolve_left none_pre⟩
theorem strc_while (hv:ItV L i) (ho:isW (sgAt L i) [40]=true) (hc:isW (sgAt L (i+1)) [119,104,105,108,101]=true) (hm:2 * farN L i+1≤m+1) (hn:2 * farN L i≤n+2):∃ pre Sub,Strc L F i (m+1) (n+2) E lp pre Sub:=by
 have hw:=hv.word ho _ ([1,2],none) hc (Or.inr rfl) (Or.inl rfl)
 obtain ⟨c1,c2,c3,c4⟩:=close_pos hw.1
 have d1:closeE L ([1,2],none) (i+2)=partsE L [1,2] (i+2)+1:=c1
 have d2:0≤partsE L [1,2] (i+2):=c2
 have d4:isW (sgAt L (partsE L [1,2] (i+2))) [41]=true:=c4
 obtain ⟨j1,j2⟩:=word_one hv ho
 have q2:chainV L 2 (i+2) (partsE L [1,2] (i+2)):=parts_chain [1,2] (i+2) (by decide) (by omega)
 have hve:=q2.1.ends
 refine ⟨[],_,strc_plain ho j1 q2 d4 (by rw [hw.2,d1]) j2 (dff_word hc (by decide) (by decide) (by decide)) hm hn (fun x=>if x=i+2 then lp else true) ?_ (fun u hu=>by cases hu) fun s fn hs=>?_⟩
 ·have:Q.wk L (m+1) 0 false i ⟨E,lp⟩=(Q.wk L m 0 false (i+2) ⟨E,lp⟩).add (Q.wk L m 0 false (itemE L (i+2)) (Q.inLoop ⟨E,lp⟩ true)):=Q.itw_while (Q.wk L m) ⟨E,lp⟩ ho hc
  rw [this]
  show _=[]++[i+2,itemE L (i+2)].flatMap _
  simp only [List.flatMap_cons,List.flatMap_nil,List.append_nil,List.nil_append,if_true]
  rw [if_neg (by omega)]
  rfl
 ·have hu:us L F (n+2) 0 i s fn=us L F (n+1) 1 (i+2) s fn:=usw_while (us L F (n+1)) s fn ho hc
  rw [hu,any_us n _ s fn q2 d4]
  exact ⟨Or.inr,fun h=>h.resolve_left none_pre⟩
theorem strc_rest (hv:ItV L i) (ho:isW (sgAt L i) [40]=true) (hhidden:isW (sgAt L (i+1)) [104,105,100,100,101,110]=false) (hvars:isW (sgAt L (i+1)) [118,97,114,115]=false) (hlet:isW (sgAt L (i+1)) [108,101,116]=false) (htake:isW (sgAt L (i+1)) [116,97,107,101]=false) (hset:isW (sgAt L (i+1)) [115,101,116]=false) (hhget:isW (sgAt L (i+1)) [104,103,101,116]=false) (hhput:isW (sgAt L (i+1)) [104,112,117,116]=false) (hfn:isW (sgAt L (i+1)) [102,110]=false) (hdo:isW (sgAt L (i+1)) [100,111]=false) (hwhile:isW (sgAt L (i+1)) [119,104,105,108,101]=false) (hfor:isW (sgAt L (i+1)) [102,111,114]=false) (hleave:isW (sgAt L (i+1)) [108,101,97,118,101]=false) (hnext:isW (sgAt L (i+1)) [110,101,120,116]=false) (hm:2 * farN L i+1≤m+1) (hn:2 * farN L i≤n+2):∃ pre Sub,Strc L F i (m+1) (n+2) E lp pre Sub:=by
 obtain ⟨k,e,q2,q3,q4⟩:=hv.items ho hfn hdo hlet hset htake hhget hhput hhidden hvars hfor
 obtain ⟨j1,j2⟩:=word_one hv ho
 have hse:=sgAt_shut q3
 refine ⟨[],_,strc_plain ho j1 q2 q3 q4 j2 (dff_not hfn hdo hfor) hm hn (fun _=>lp) ?_ (fun u hu=>by cases hu) fun s fn hs=>?_⟩
 ·have:Q.wk L (m+1) 0 false i ⟨E,lp⟩=Q.outs (fun p=>Q.wk L m 0 false p ⟨E,lp⟩) (plc L (i+2)):=Q.itw_rest (Q.wk L m) ⟨E,lp⟩ ho hhidden hvars hlet htake hset hhget hhput hfn hdo hwhile hfor hleave hnext
  rw [this,plc_chain q2 hse.1 (by omega) (endB_shut q3),outs_us]
  rfl
 ·have hu:us L F (n+2) 0 i s fn=us L F (n+1) 1 (i+2) s fn:=by
   show usI L F _ i s fn=_
   unfold usI
   rw [ho,hfn,hdo,hlet,hhget,hhput,hset,htake,hhidden,hvars,hfor]
   rfl
  rw [hu,any_us n _ s fn q2 q3]
  exact ⟨Or.inr,fun h=>h.resolve_left none_pre⟩
end
end Go.Proofs.YtdgihicpjonjgaaGreatDoor
namespace Go.Proofs.YtdgihicpjonjgaaGreatDoor
open Go.RowKit
section
variable {L:List ByteArray} {F:Nat→Bool} {i:Int} {m n:Nat} {E:Q.Blks} {lp:Bool}
theorem pieceQ_mem {b:Bool} {p k:Int} (h:k∈Q.pieceD L b p):k∈plcD L p∧hidB L p=b:=by
 unfold Q.pieceD at h
 split at h
 ·rename_i h1
  exact ⟨h,h1⟩
 ·cases h
theorem piece_map {p:Int} (h:fm L 1 p≠-1):(Q.pieceD L false p).map (sgAt L)=pieceD L false p:=by
 unfold Q.pieceD
 cases hb:hidB L p
 ·rw [if_pos rfl,(plcD_piece h).1,hb]
 ·rw [if_neg (by decide),piece_was hb]
  rfl
theorem flat_map:∀ ps:List Int,(∀ p∈ps,fm L 1 p≠-1)→(ps.flatMap (Q.pieceD L false)).map (sgAt L)=ps.flatMap (pieceD L false)
 | [],_=>rfl
 | p :: ps,h=>by
  rw [List.flatMap_cons,List.flatMap_cons,List.map_append,piece_map (h p (List.mem_cons_self ..)),flat_map ps fun q hq=>h q (List.mem_cons_of_mem _ hq)]
theorem blk_ow {k:Nat} {a e o:Int} (hd:chainD L k a e) (hpar:∀ p∈chainP L k a,∀ q,Anc L q p↔(Anc L q o∨q=o)) (ho:dff L o=true) (b:Bool):∀ y∈(chainP L k a).flatMap (Q.pieceD L b),0≤y∧Ow L o y:=fun y hy=>by
 obtain ⟨p,hp,hyp⟩:=List.mem_flatMap.mp hy
 have hdl:=(chain_deeds k a hd).2 p hp
 have h1:=(pieceQ_mem hyp).1
 have h2:=(plcD_piece hdl).2 y h1
 have h3:=deed_long hdl
 exact ⟨by omega,ow_deed hdl (hpar p hp) ho h1⟩
theorem strc_do (hv:ItV L i) (ho:isW (sgAt L i) [40]=true) (hc:isW (sgAt L (i+1)) [100,111]=true) (hm:2 * farN L i+1≤m+2) (hn:2 * farN L i≤n+2):∃ pre Sub,Strc L F i (m+2) (n+2) E lp pre Sub∧pre=[]∧Sub=(plc L (i+2)).map fun x=>⟨x,[((plc L (i+2)).flatMap (Q.pieceD L false),(plc L (i+2)).flatMap (Q.pieceD L true))],m,n,lp⟩:=by
 obtain ⟨k,e,q1d,q2,q3⟩:=hv.deeds ho hc
 have hse:=sgAt_shut q2
 have h0:=(sgAt_open ho).1
 obtain ⟨q1,hdl⟩:=chain_deeds k _ q1d
 obtain ⟨j1,j2⟩:=word_one hv ho
 have hkI:=chI_V k _ q1
 obtain ⟨hch,hP⟩:=chI_app 1 k _ j1 hkI
 have hplc:=plc_chain q1 hse.1 (by omega) (endB_shut q2)
 have hlt:=chainP_lt k _ q1 hse.1
 have hmem:∀ x,x∈chainP L k (i+2)→x∈chainP L (1+k) (i+1):=fun x hx=>by rw [hP];exact List.mem_append.mpr (Or.inr hx)
 have hpar:∀ p∈chainP L k (i+2),∀ q,Anc L q p↔(Anc L q i∨q=i):=fun p hp q=>anc_child ho hch hse.1 q3 (hmem p hp)
 have hdf:=dff_do hc
 have hP1:=blk_ow q1d hpar hdf false
 have hP2:=blk_ow q1d hpar hdf true
 have hkp:kpB L F i=F i.toNat:=by
  unfold kpB fnB
  rw [ho,hc,isW_other hc (by decide)]
  rfl
 rw [hplc]
 refine ⟨[],_,⟨?_,(fun u hu=>by cases hu),fun t ht=>?_,?_,fun d d1 d2 d3=>?_,fun s fn hs=>?_⟩,rfl,rfl⟩
 ·have e1:Q.wk L (m+2) 0 false i ⟨E,lp⟩=Q.wk L (m+1) 1 false (i+2) ⟨E,lp⟩:=Q.itw_do (Q.wk L (m+1)) ⟨E,lp⟩ ho hc
  have e2:(Q.wk L (m+1) 1 false (i+2) ⟨E,lp⟩).us=(Q.outs (fun p=>Q.wk L m 0 false p (Q.addB ⟨E,lp⟩ ((plc L (i+2)).flatMap (Q.pieceD L false)) ((plc L (i+2)).flatMap (Q.pieceD L true)))) (plc L (i+2))).us:=rfl
  rw [e1,e2,outs_us,hplc,List.flatMap_map]
  rfl
 ·obtain ⟨x,hx,rfl⟩:=List.mem_map.mp ht
  obtain ⟨c1,c2,c3,c4⟩:=hlt x hx
  have hfar:=far_lt (L:=L) (i:=i) (j:=x) h0 (by omega) (by omega)
  refine ⟨c3,(hpar x hx i).2 (Or.inr rfl),fun Z hZ=>?_,fun q hq hqi=>?_,?_,?_,?_⟩
  ·rw [List.mem_singleton] at hZ
   subst hZ
   exact ⟨hP1,hP2⟩
  ·rcases (hpar x hx q).1 hq with h1 | rfl
   ·have:=h1.2.1
    omega
   ·omega
  ·show 2 * farN L x+1≤m
   omega
  ·show 2 * farN L x≤n
   omega
  ·show farN L x < farN L i
   omega
 ·rw [List.pairwise_map]
  exact chainV_pair k _ q1 hse.1
 ·by_cases hda:d < i+2
  ·rw [j2 d d1 hda] at d3
   cases d3
  ·have hde:d≠e:=fun h=>by
    rw [h,do_not (isW_other q2 (by decide))] at d3
    cases d3
   obtain ⟨c,cm,c1,c2,c3⟩:=chI_find (q:=d) k _ hkI (by omega) (by omega)
   exact ⟨_,List.mem_map.mpr ⟨c,cm,rfl⟩,c1,c2⟩
 ·have hu:us L F (n+2) 0 i s fn=(if inB (decN L (i+2)) s then false else us L F (n+1) 1 (i+2) s (fn || F i.toNat)):=usw_do (us L F (n+1)) s fn ho hc
  have hdn:decN L (i+2)=((chainP L k (i+2)).flatMap (Q.pieceD L false)).map (sgAt L):=by
   unfold decN
   rw [hplc,flat_map _ hdl]
  rw [hu,hdn,fst_in fun p hp=>(hP1 p hp).1,hkp]
  constructor
  ·intro h
   split at h
   ·cases h
   ·rename_i h1
    obtain ⟨x,hx,h2⟩:=(any_us n _ s _ q1 q2).1 h
    refine Or.inr ⟨_,List.mem_map.mpr ⟨x,hx,rfl⟩,fun Z hZ=>?_,h2⟩
    rw [List.mem_singleton] at hZ
    subst hZ
    exact fun h3=>h1 (decide_eq_true h3)
  ·rintro (h1 | ⟨t,ht,h1,h2⟩)
   ·exact absurd h1 none_pre
   ·obtain ⟨x,hx,rfl⟩:=List.mem_map.mp ht
    rw [if_neg (fun h3=>h1 _ (List.mem_singleton.mpr rfl) (of_decide_eq_true h3))]
    exact (any_us n _ s _ q1 q2).2 ⟨x,hx,h2⟩
theorem strc_for (hv:ItV L i) (ho:isW (sgAt L i) [40]=true) (hc:isW (sgAt L (i+1)) [102,111,114]=true) (hm:2 * farN L i+1≤m+2) (hn:2 * farN L i≤n+2):∃ pre Sub,Strc L F i (m+2) (n+2) E lp pre Sub:=by
 have h0:=(sgAt_open ho).1
 have hp:=hv.plain ho
 have hit1:=(hv.parts ho).1
 have hw:=hv.word ho _ ([4,1,1,2],none) hc (Or.inr rfl) (Or.inl rfl)
 obtain ⟨c1,c2,c3,c4⟩:=close_pos hw.1
 have d1:closeE L ([4,1,1,2],none) (i+2)=partsE L [1,1,2] (endW L 4 (i+2))+1:=c1
 have d2:0≤partsE L [1,1,2] (endW L 4 (i+2)):=c2
 have d4:isW (sgAt L (partsE L [1,1,2] (endW L 4 (i+2)))) [41]=true:=c4
 have hnn:endW L 4 (i+2)≠-1:=fun he=>by rw [he,parts_neg] at d2;omega
 have hnp:=nm_pos hnn
 rw [hnp.1,show i+2+1=i+3 by omega] at d1 d2 d4
 have q1:chainV L 3 (i+3) (partsE L [1,1,2] (i+3)):=parts_chain [1,1,2] (i+3) (by decide) (by omega)
 generalize partsE L [1,1,2] (i+3)=e at d1 d2 d4 q1
 have hse:=sgAt_shut d4
 have q3:itemE L i=e+1:=by rw [hw.2,d1]
 obtain ⟨j1,j2,j3⟩:=name_one hv ho hnp.2.1 hnp.2.2.2
 have hkI:=chI_V 3 _ q1
 obtain ⟨hch,hP⟩:=chI_app 2 3 _ j1 hkI
 have hlt:=chainP_lt 3 _ q1 hse.1
 have hmem:∀ x,x∈chainP L 3 (i+3)→x∈chainP L (2+3) (i+1):=fun x hx=>by rw [hP];exact List.mem_append.mpr (Or.inr hx)
 have hpar:∀ p∈chainP L 3 (i+3),∀ q,Anc L q p↔(Anc L q i∨q=i):=fun p hp q=>anc_child ho hch hse.1 q3 (hmem p hp)
 have hparn:∀ q,Anc L q (i+2)↔(Anc L q i∨q=i):=fun q=>anc_child ho hch hse.1 q3 (by rw [hP];exact List.mem_append.mpr (Or.inl j3))
 have how:Ow L i (i+2):=ow_child hparn (dff_for hc)
 have hkp:kpB L F i=false:=by
  unfold kpB fnB
  rw [ho,isW_other hc (by decide),isW_other hc (by decide)]
  rfl
 have hpair:=chainV_pair 3 _ q1 hse.1
 obtain ⟨x4,hx4⟩:∃ x4,x4=itemE L (i+3):=⟨_,rfl⟩
 obtain ⟨x5,hx5⟩:∃ x5,x5=itemE L x4:=⟨_,rfl⟩
 have hL3:chainP L 3 (i+3)=[i+3,x4,x5]:=by
  show [i+3,itemE L (i+3),itemE L (itemE L (i+3))]=_
  rw [hx5,hx4]
 rw [hL3] at hlt hpar hpair
 have key:∀ (x:Int) (B:Q.Blks) (b:Bool),x∈[i+3,x4,x5]→(∀ Z∈B,(∀ y∈Z.1,0≤y∧Ow L i y)∧∀ y∈Z.2,0≤y∧Ow L i y)→SbOk L i ⟨x,B,m+1,n+1,b⟩:=fun x B b hx hB=>by
  obtain ⟨c1,c2,c3,c4⟩:=hlt x hx
  have hfar:=far_lt (L:=L) (i:=i) (j:=x) h0 (by omega) (by omega)
  refine ⟨c3,(hpar x hx i).2 (Or.inr rfl),hB,fun q hq hqi=>?_,?_,?_,?_⟩
  ·rcases (hpar x hx q).1 hq with h1 | rfl
   ·have:=h1.2.1
    omega
   ·omega
  ·show 2 * farN L x+1≤m+1
   omega
  ·show 2 * farN L x≤n+1
   omega
  ·show farN L x < farN L i
   omega
 refine ⟨[],[⟨i+3,[],m+1,n+1,lp⟩,⟨x4,[],m+1,n+1,lp⟩,⟨x5,[([i+2],[])],m+1,n+1,true⟩],?_,(fun u hu=>by cases hu),fun t ht=>?_,?_,fun d e1 e2 e3=>?_,fun s fn hs=>?_⟩
 ·have e1:Q.wk L (m+2) 0 false i ⟨E,lp⟩=(Q.wk L (m+1) 0 false (i+3) ⟨E,lp⟩).add ((Q.wk L (m+1) 0 false (itemE L (i+3)) ⟨E,lp⟩).add (Q.wk L (m+1) 0 false (itemE L (itemE L (i+3))) (Q.addN (Q.inLoop ⟨E,lp⟩ true) [i+2]))):=Q.itw_for (Q.wk L (m+1)) ⟨E,lp⟩ ho hc
  rw [e1,← hx4,← hx5]
  simp only [List.flatMap_cons,List.flatMap_nil,List.append_nil,List.nil_append]
  rfl
 ·simp only [List.mem_cons,List.not_mem_nil,or_false] at ht
  rcases ht with rfl | rfl | rfl
  ·exact key _ [] _ (by simp) (fun Z hZ=>by cases hZ)
  ·exact key _ [] _ (by simp) (fun Z hZ=>by cases hZ)
  ·refine key _ [([i+2],[])] _ (by simp) (fun Z hZ=>?_)
   rw [List.mem_singleton] at hZ
   subst hZ
   refine ⟨fun y hy=>?_,fun y hy=>by cases hy⟩
   rw [List.mem_singleton] at hy
   subst hy
   exact ⟨by omega,how⟩
 ·simp only [List.pairwise_cons,List.mem_cons,List.not_mem_nil,or_false,forall_eq_or_imp,forall_eq,List.Pairwise.nil] at hpair ⊢
  exact ⟨⟨hpair.1.1,hpair.1.2⟩,hpair.2.1,fun _ h=>absurd h id,trivial⟩
 ·by_cases hda:d < i+3
  ·rw [j2 d e1 hda] at e3
   cases e3
  ·have hde:d≠e:=fun h=>by
    rw [h,do_not (isW_other d4 (by decide))] at e3
    cases e3
   obtain ⟨c,cm,c1,c2,c3⟩:=chI_find (q:=d) 3 _ hkI (by omega) (by omega)
   rw [hL3] at cm
   simp only [List.mem_cons,List.not_mem_nil,or_false] at cm
   rcases cm with rfl | rfl | rfl
   ·exact ⟨_,List.mem_cons_self ..,c1,c2⟩
   ·exact ⟨_,List.mem_cons_of_mem _ (List.mem_cons_self ..),c1,c2⟩
   ·exact ⟨_,List.mem_cons_of_mem _ (List.mem_cons_of_mem _ (List.mem_cons_self ..)),c1,c2⟩
 ·have hu:us L F (n+2) 0 i s fn=(if us L F (n+1) 0 (i+3) s fn || us L F (n+1) 0 (itemE L (i+3)) s fn then true else !eqS (sgAt L (i+2)) s && us L F (n+1) 0 (itemE L (itemE L (i+3))) s fn):=usw_for (us L F (n+1)) s fn ho hc
  rw [hu,← hx4,← hx5,hkp,Bool.or_false]
  have hfs:(0≤Q.fstP L [i+2] s)↔eqS (sgAt L (i+2)) s=true:=by
   have h1:=fst_in (L:=L) (P:=[i+2]) (s:=s) (fun p hp=>by rw [List.mem_singleton] at hp;omega)
   rw [show inB ([i+2].map (sgAt L)) s=eqS (sgAt L (i+2)) s by simp [inB,eqS]] at h1
   rw [h1]
   exact (decide_eq_true_iff).symm
  constructor
  ·intro h
   right
   split at h
   ·rename_i h1
    rw [Bool.or_eq_true] at h1
    rcases h1 with h1 | h1
    ·exact ⟨_,List.mem_cons_self ..,(fun Z hZ=>by cases hZ),h1⟩
    ·exact ⟨_,List.mem_cons_of_mem _ (List.mem_cons_self ..),(fun Z hZ=>by cases hZ),h1⟩
   ·rw [Bool.and_eq_true] at h
    refine ⟨_,List.mem_cons_of_mem _ (List.mem_cons_of_mem _ (List.mem_cons_self ..)),fun Z hZ=>?_,h.2⟩
    rw [List.mem_singleton] at hZ
    subst hZ
    intro h2
    rw [hfs.1 h2] at h
    cases h.1
  ·rintro (h1 | ⟨t,ht,h1,h2⟩)
   ·exact absurd h1 none_pre
   ·simp only [List.mem_cons,List.not_mem_nil,or_false] at ht
    rcases ht with rfl | rfl | rfl
    ·simp only at h2
     rw [h2]
     rfl
    ·simp only at h2
     rw [h2,Bool.or_true]
     rfl
    ·simp only at h2
     split
     ·rfl
     ·rw [Bool.and_eq_true]
      refine ⟨?_,h2⟩
      have h3:=h1 _ (List.mem_singleton.mpr rfl)
      simp only at h3
      rw [hfs] at h3
      simp [h3]
end
end Go.Proofs.YtdgihicpjonjgaaGreatDoor
