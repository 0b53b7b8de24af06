import Derived.Test.YtdojfommmpnbgaaGreatDoorKBC
import Derived.Test.YtdojfommmpnbgaaGreatDoorKBG
namespace Go.Proofs.YtdojfommmpnbgaaGreatDoor
open Go.RowKit
def eh(L:af)(q:Int):Bool:=ae (aa L (q+1)) [102,110]||iU (aa L (q+1))&&!ae (aa L (q+1)) [119,104,105,108,101]
theorem jT{L:af}{q:Int}{c:List UInt8}(h:ae (aa L (q+1)) c=true)(h0:(c==[102,110])=false)(h1:(c==[100,111])=false)(h3:(c==[102,111,114])=false):eh L q=false:=by
 unfold eh iU;rw[aQ h h0,aQ h h1,aQ h h3];cases ae (aa L (q+1)) [119,104,105,108,101]<;>rfl
theorem sn{L:af}{q:Int}(h:aV (aa L (q+1))=true):eh L q=false:=by
 unfold eh;rw[te h,BO h];rfl
theorem ES{L:af}{q:Int}(h0:ae (aa L (q+1)) [102,110]=false)(h1:ae (aa L (q+1)) [100,111]=false)(h3:ae (aa L (q+1)) [102,111,114]=false):eh L q=false:=by
 unfold eh iU;rw[h0,h1,h3];cases ae (aa L (q+1)) [119,104,105,108,101]<;>rfl
theorem zy{L:af}{q:Int}(h:ae (aa L (q+1)) [102,110]=true):eh L q=true:=by
 unfold eh;rw[h];rfl
theorem uG{L:af}{q:Int}(h:ae (aa L (q+1)) [100,111]=true):eh L q=true:=by
 unfold eh iU;rw[h,aQ h (by decide),aQ h (by decide)];rfl
theorem ER{L:af}{q:Int}(h:ae (aa L (q+1)) [102,111,114]=true):eh L q=true:=by
 unfold eh iU;rw[h,aQ h (by decide),aQ h (by decide),aQ h (by decide)];rfl
def Ow(L:af)(o n:Int):Prop:=(o=-1∨(bH L o n∧eh L o=true))∧∀q,bH L q n→eh L q=true→q≤o
section
variable {L:af} {i j e x q k o p n:Int}
theorem xR(h:bH L q k):0≤q:=(bF h.1).1
theorem ma{o':Int}(h:Ow L o n)(h':Ow L o' n):o=o':=by
 rcases h.1 with h1|h1
 ·rcases h'.1 with h2|h2
  ·omega
  ·have:=h.2 o' h2.1 h2.2;have:=xR h2.1;omega
 ·have h3:=h'.2 o h1.1 h1.2;rcases h'.1 with h2|h2
  ·have:=xR h1.1;omega
  ·have:=h.2 o' h2.1 h2.2;omega
theorem xQ(h:bH L q p)(hn:ae (aa L p) [41]=false):ag L p<ag L q∧p<ag L p:=by
 have h0:=(bF h.1).1;have:=nW _ q p (Nat.le_refl _) h.1 (by have:=h.2.1;have:=h.2.2;omega) h.2.1 h.2.2 hn;exact⟨this.2,this.1⟩
theorem xS(h:bH L q p)(h':bH L p n):bH L q n:=by
 have h1:=xQ h (aQ h'.1 (by decide));exact⟨h.1,by have:=h.2.1;have:=h'.2.1;omega,by have:=h'.2.2;omega⟩
theorem sf(h:fm L 1 p≠-1)(hn:n∈dm L p):bH L p n∧eh L p=false∧aV (aa L n)=true∧∀q,bH L q n→q=p∨bH L q p∨eh L q=false:=by
 have hr:=(mh h).2 n hn;have ho:=lR h;have hit:=iS h;have hl:=fR h;have ha:bH L p n:=⟨ho,hr.1,by omega⟩;have key:eh L p=false∧aV (aa L n)=true∧∀q,ae (aa L q) [40]=true→p<q→q<n→eh L q=false:=by
  unfold dm at hn;cases hlet:ae (aa L (p+1)) [108,101,116]
  ·cases htk:ae (aa L (p+1)) [116,97,107,101]
   ·rw[hlet,htk]at hn;simp only[Bool.false_eq_true,if_false]at hn;have names:∀c:List UInt8,ae (aa L (p+1)) c=true→(c==[102,110])=false→(c==[100,111])=false→(c==[102,111,114])=false→(c==[40])=false→bp L (fm L) ⟨c.toArray⟩ (p+2)=aK L (fm L 5 (p+2)) [41]→n∈ar L (fm L 5 (p+2)-(p+2)).toNat (p+2)→eh L p=false∧aV (aa L n)=true∧∀q,ae (aa L q) [40]=true→p<q→q<n→eh L q=false:=fun c hc c1 c2 c3 c4 hd hm=>by
     obtain⟨h1,h2,h3,h4,h5⟩:=kT h (aZ hc) hd;obtain⟨a,b,cc⟩:=lP (L:=L) (fm L 5 (p+2)-(p+2)).toNat (p+2) (by omega) (by omega) (fun k h6 h7=>h4 k h6 (by omega));have hnr:=cc n hm;refine⟨jT hc c1 c2 c3,h4 n hnr.1 (by omega),fun q hq q1 q2=>?_⟩;exfalso;by_cases hq1:q=p+1
     ·subst hq1;rw[aQ hc c4]at hq;cases hq
     ·have:=(dD (h4 q (by omega) (by omega))).1;rw[hq]at this;cases this
    cases hv:ae (aa L (p+1)) [118,97,114,115]
    ·cases hh:ae (aa L (p+1)) [104,105,100,100,101,110]
     ·rw[hv,hh]at hn;cases hn
     ·rw[hv,hh]at hn;exact names _ hh (by decide) (by decide) (by decide) (by decide) nB hn
    ·rw[hv]at hn;exact names _ hv (by decide) (by decide) (by decide) (by decide) nC hn
   ·rw[hlet,htk]at hn;simp only[Bool.false_eq_true,if_false,if_true]at hn;obtain⟨h1,h2,h3,h4,h5,h6⟩:=mo h (aZ htk);obtain⟨a,b,c⟩:=lP (L:=L) (fm L 5 (p+4)-(p+3)).toNat (p+3) (by omega) (by omega) (fun k h7 h8=>h4 k h7 (by omega));have hnr:=c n hn;refine⟨jT htk (by decide) (by decide) (by decide),h4 n hnr.1 (by omega),fun q hq q1 q2=>?_⟩;by_cases hq1:q=p+1
    ·subst hq1;rw[aQ htk (by decide)]at hq;cases hq
    ·by_cases hq2:q=p+2
     ·subst hq2;refine sn ?_;rw[show p+2+1=p+3 by omega];exact h4 (p+3) (Int.le_refl _) (by omega)
     ·have:=(dD (h4 q (by omega) (by omega))).1;rw[hq]at this;cases this
  ·rw[hlet]at hn;simp only[if_true,List.mem_singleton]at hn;subst hn;obtain⟨h1,h2,h3⟩:=sV h (aZ hlet);refine⟨jT hlet (by decide) (by decide) (by decide),h1,fun q hq q1 q2=>?_⟩;have:q=p+1:=by omega
   subst this;rw[aQ hlet (by decide)]at hq;cases hq
 refine⟨ha,key.1,key.2.1,fun q hq=>?_⟩;by_cases h1:q<p
 ·exact Or.inr (Or.inl ⟨hq.1,h1,by have:=hq.2.2;omega⟩)
 ·by_cases h2:q=p
  ·exact Or.inl h2
  ·exact Or.inr (Or.inr (key.2.2 q hq.1 (by omega) hq.2.1))
theorem Ke(hd:fm L 1 p≠-1)(hpar:∀q,bH L q p↔(bH L q o∨q=o))(ho:eh L o=true)(hn:n∈dm L p):Ow L o n:=by
 obtain⟨h1,h2,_,h3⟩:=sf hd hn;refine⟨Or.inr ⟨xS ((hpar o).2 (Or.inr rfl)) h1,ho⟩,fun q hq hdq=>?_⟩;rcases h3 q hq with rfl|h4|h4
 ·rw[h2]at hdq;cases hdq
 ·rcases (hpar q).1 h4 with h5|rfl
  ·have:=h5.2.1;omega
  ·exact Int.le_refl _
 ·rw[h4]at hdq;cases hdq
theorem Kf(hd:fm L 1 p≠-1)(hpar:∀q,¬bH L q p)(hn:n∈dm L p):Ow L (-1) n:=by
 obtain⟨h1,h2,_,h3⟩:=sf hd hn;refine⟨Or.inl rfl,fun q hq hdq=>?_⟩;rcases h3 q hq with rfl|h4|h4
 ·rw[h2]at hdq;cases hdq
 ·exact absurd h4 (hpar q)
 ·rw[h4]at hdq;cases hdq
theorem Kc(hpar:∀q,bH L q n↔(bH L q o∨q=o))(ho:eh L o=true):Ow L o n:=by
 refine⟨Or.inr ⟨(hpar o).2 (Or.inr rfl),ho⟩,fun q hq _=>?_⟩;rcases (hpar q).1 hq with h1|rfl
 ·have:=h1.2.1;omega
 ·exact Int.le_refl _
theorem qh:∀j k a,bd L j a x→bd L k x e→bd L (j+k) a e∧ar L (j+k) a=ar L j a++ar L k x
 |0,k,a,h,g=>by
  have:a=x:=h;subst this;rw[Nat.zero_add];exact⟨g,rfl⟩
 |j+1,k,a,h,g=>by
  obtain⟨h1,h2⟩:=qh j k _ h.2 g;rw[show j+1+k=(j+k)+1 by omega];refine⟨⟨h.1,h1⟩,?_⟩;show a::ar L (j+k) (ag L a)=a::(ar L j (ag L a)++ar L k x);rw[h2]
end
theorem mD{L:af}{P:List Int}{s:ByteArray}(hP:∀p∈P,0≤p):bc (P.map (aa L)) s=decide (0≤Q.bD L P s):=by
 rcases Q.qD (L:=L) (s:=s) hP with⟨h0,p,h1,h2⟩|⟨h0,h1⟩
 ·rw[decide_eq_true h0];unfold bc;rw[List.any_eq_true];have hm:=List.mem_of_find?_eq_some h1;have hf:=List.find?_some h1;exact⟨aa L p,List.mem_map.mpr ⟨p,hm,rfl⟩,hf⟩
 ·rw[decide_eq_false (by omega)];unfold bc;rw[List.any_eq_false];intro y hy;obtain⟨p,hp,rfl⟩:=List.mem_map.mp hy;exact List.find?_eq_none.mp h1 p hp
theorem mU(f:Int→Q.Ot):∀ps,(Q.aW f ps).us=ps.flatMap fun p=>(f p).us
 |[]=>rfl
 |p::ps=>by
  show((f p).add (Q.aW f ps)).us=_;show(f p).us++(Q.aW f ps).us=_;rw[mU f ps,List.flatMap_cons]
def jm(L:af)(F:Nat→Bool)(q:Int):Bool:=ae (aa L q) [40]&&(dt L q||(ae (aa L (q+1)) [100,111]&&F q.toNat))
theorem sQ{L:af}{F:Nat→Bool}{q:Int}(h:eh L q=false):jm L F q=false:=by
 cases hc:jm L F q
 ·rfl
 ·unfold jm dt at hc;rw[Bool.and_eq_true,Bool.or_eq_true]at hc;rcases hc.2 with h1|h1
  ·rw[zy h1]at h;cases h
  ·rw[Bool.and_eq_true]at h1;rw[uG h1.1]at h;cases h
structure Sb where
 x:Int
 B:Q.bj
 m:Nat
 n:Nat
 lp:Bool
def oI(L:af)(i:Int)(t:Sb):Prop:=aH L t.x∧bH L i t.x∧(∀Z∈t.B,(∀n∈Z.1,0≤n∧Ow L i n)∧∀n∈Z.2,0≤n∧Ow L i n)∧(∀q,bH L q t.x→i<q→eh L q=false)∧2*aB L t.x+1≤t.m∧2*aB L t.x≤t.n∧aB L t.x<aB L i
structure iF (L:af) (F:Nat→Bool) (i:Int) (m n:Nat) (E:Q.bj) (lp:Bool) (pre:List (Int × Int × Bool)) (Sub:List Sb):Prop where
 wkE:(Q.wk L m 0 false i ⟨E,lp⟩).us=pre++Sub.flatMap fun t=>(Q.wk L t.m 0 false t.x ⟨E++t.B,t.lp⟩).us
 preE:∀u∈pre,i≤u.1∧u.1<ag L i∧u.2.1=Q.bX L u.2.2 E (aa L u.1)∧∀q,bH L q u.1→i≤q→eh L q=false
 okE:∀t∈Sub,oI L i t
 apartE:Sub.Pairwise fun t t'=>ag L t.x≤t'.x
 coverE:∀d,i<d→d<ag L i→bU L d=true→∃t∈Sub,t.x≤d∧d<ag L t.x
 usE:∀s fn,aV s=true→(us L F n 0 i s fn=true↔(∃u∈pre,u.2.2=false∧aa L u.1=s∧fn=true)∨∃t∈Sub,(∀Z∈t.B,¬0≤Q.bD L Z.1 s)∧us L F t.n 0 t.x s (fn||jm L F i)=true)
theorem sB{x s:ByteArray}:dJ x s=true↔x=s:=Q.qx
section
variable {L:af} {F:Nat→Bool} {i a e:Int}
theorem nA:∀k a,dd L k a e→0≤e→(ar L k a).Pairwise fun x y=>ag L x≤y
 |0,_,_,_=>List.Pairwise.nil
 |k+1,a,h,he=>by
  refine List.Pairwise.cons (fun y hy=>?_) (nA k _ h.2 he);exact(jz k _ h.2 he y hy).1
theorem eM{d:Int}(h:bU L d=true):ae (aa L d) [40]=true∧ae (aa L (d+1)) [100,111]=true:=by
 unfold bU at h;rw[Bool.and_eq_true]at h;exact h
theorem iT{d:Int}(h:ae (aa L d) [40]=false):bU L d=false:=by
 unfold bU;rw[h];rfl
theorem zz{d:Int}(h:aV (aa L (d+1))=true):bU L d=false:=by
 unfold bU;have:=BO h;unfold iU at this;rw[Bool.or_eq_false_iff]at this;rw[this.1,Bool.and_false]
theorem mj{j k m n:Nat}{E:Q.bj}{lp:Bool}{pre:List (Int × Int × Bool)}(ho:ae (aa L i) [40]=true)(hj:bd L j (i+1) a)(hk:dd L k a e)(he:ae (aa L e) [41]=true)(hit:ag L i=e+1)(hnd:∀d,i<d→d<a→bU L d=false)(hdf:eh L i=false)
  (hm:2*aB L i+1≤m+1) (hn:2*aB L i≤n+2) (lps:Int→Bool)
  (hwk:(Q.wk L (m+1) 0 false i ⟨E,lp⟩).us=pre++(ar L k a).flatMap fun x=>(Q.wk L m 0 false x ⟨E,lps x⟩).us)
  (hpre:∀u∈pre,u.1∈ar L j (i+1)∧u.2.1=Q.bX L u.2.2 E (aa L u.1))
  (hus:∀s fn,aV s=true→(us L F (n+2) 0 i s fn=true↔(∃u∈pre,u.2.2=false∧aa L u.1=s∧fn=true)∨∃x∈ar L k a,us L F n 0 x s fn=true)) :
  iF L F i (m+1) (n+2) E lp pre ((ar L k a).map fun x=>⟨x,[],m,n,lps x⟩):=by
 have hse:=dH he;have h0:=(bF ho).1;have hkI:=iv k a hk;obtain⟨hc,hP⟩:=qh j k _ hj hkI;have hae:=bK k a hkI hse.1;have hlt:=jz k a hk hse.1;have hmem:∀x,x∈ar L k a→x∈ar L (j+k) (i+1):=fun x hx=>by rw[hP];exact List.mem_append.mpr (Or.inr hx)
 have hmem2:∀x,x∈ar L j (i+1)→x∈ar L (j+k) (i+1):=fun x hx=>by rw[hP];exact List.mem_append.mpr (Or.inl hx)
 have hall:=fQ (j+k) _ hc hse.1;refine⟨?_,fun u hu=>?_,fun t ht=>?_,?_,fun d d1 d2 d3=>?_,fun s fn hs=>?_⟩
 ·rw[hwk];congr 1;rw[List.flatMap_map];simp only[List.append_nil]
 ·obtain⟨p1,p2⟩:=hpre u hu;have hc1:=hall _ (hmem2 _ p1);have hu2:=cZ hc1.2.2.1;refine⟨by omega,by omega,p2,fun q hq hqi=>?_⟩;rcases (eg ho hc hse.1 hit (hmem2 _ p1)).1 hq with h1|rfl
  ·have:=h1.2.1;omega
  ·exact hdf
 ·obtain⟨x,hx,rfl⟩:=List.mem_map.mp ht;obtain⟨c1,c2,c3,c4⟩:=hlt x hx;have hi1:=hall x (hmem x hx);have hfar:=dC (L:=L) (i:=i) (j:=x) h0 (by omega) (by omega);refine⟨c3,(eg ho hc hse.1 hit (hmem x hx)).2 (Or.inr rfl),(fun Z hZ=>by cases hZ),fun q hq hqi=>?_,?_,?_,?_⟩
  ·rcases (eg ho hc hse.1 hit (hmem x hx)).1 hq with h1|rfl
   ·have:=h1.2.1;omega
   ·omega
  ·show 2*aB L x+1≤m;omega
  ·show 2*aB L x≤n;omega
  ·show aB L x<aB L i;omega
 ·rw[List.pairwise_map];exact nA k a hk hse.1
 ·by_cases hda:d<a
  ·rw[hnd d d1 hda]at d3;cases d3
  ·have hde:d≠e:=fun h=>by
    rw[h]at d3;rw[iT (aQ he (by decide))]at d3;cases d3
   obtain⟨c,cm,c1,c2,c3⟩:=mz (q:=d) k a hkI (by omega) (by omega)
   exact⟨_,List.mem_map.mpr ⟨c,cm,rfl⟩,c1,c2⟩
 ·rw[hus s fn hs,sQ hdf,Bool.or_false];constructor
  ·rintro(h1|⟨x,hx,h1⟩)
   ·exact Or.inl h1
   ·exact Or.inr ⟨_,List.mem_map.mpr ⟨x,hx,rfl⟩,(fun Z hZ=>by cases hZ),h1⟩
  ·rintro(h1|⟨t,ht,_,h1⟩)
   ·exact Or.inl h1
   ·obtain⟨x,hx,rfl⟩:=List.mem_map.mp ht;exact Or.inr ⟨x,hx,h1⟩
end
section
variable {L:af} {F:Nat→Bool} {i:Int} (r:Nat→Int→ByteArray→Bool→Bool) (s:ByteArray) (fn:Bool)
theorem NT(ho:ae (aa L i) [40]=true)(hc:ae (aa L (i+1)) [108,101,116]=true):dE L F r i s fn=r 1 (i+3) s fn:=by
 unfold dE;rw[ho,aZ hc];simp only[aS];rfl
theorem NP(ho:ae (aa L i) [40]=true)(hc:ae (aa L (i+1)) [104,103,101,116]=true):dE L F r i s fn=r 1 (i+3) s fn:=by
 unfold dE;rw[ho,aZ hc];simp only[aS];rfl
theorem NR(ho:ae (aa L i) [40]=true)(hc:ae (aa L (i+1)) [104,112,117,116]=true):dE L F r i s fn=r 1 (i+3) s fn:=by
 unfold dE;rw[ho,aZ hc];simp only[aS];rfl
theorem NV(ho:ae (aa L i) [40]=true)(hc:ae (aa L (i+1)) [115,101,116]=true):dE L F r i s fn=(if fn&&dJ (aa L (i+2)) s then true else r 1 (i+3) s fn):=by
 unfold dE;rw[ho,aZ hc];simp only[aS];rfl
theorem NW(ho:ae (aa L i) [40]=true)(hc:ae (aa L (i+1)) [116,97,107,101]=true):dE L F r i s fn=r 1 (ag L (i+2)) s fn:=by
 unfold dE;rw[ho,aZ hc];simp only[aS];rfl
theorem NQ(ho:ae (aa L i) [40]=true)(hc:ae (aa L (i+1)) [104,105,100,100,101,110]=true):dE L F r i s fn=false:=by
 unfold dE;rw[ho,aZ hc];simp only[aS];rfl
theorem NX(ho:ae (aa L i) [40]=true)(hc:ae (aa L (i+1)) [118,97,114,115]=true):dE L F r i s fn=false:=by
 unfold dE;rw[ho,aZ hc];simp only[aS];rfl
theorem NY(ho:ae (aa L i) [40]=true)(hc:ae (aa L (i+1)) [119,104,105,108,101]=true):dE L F r i s fn=r 1 (i+2) s fn:=by
 unfold dE;rw[ho,aZ hc];simp only[aS];rfl
theorem NS(ho:ae (aa L i) [40]=true)(hc:ae (aa L (i+1)) [108,101,97,118,101]=true):dE L F r i s fn=r 1 (i+2) s fn:=by
 unfold dE;rw[ho,aZ hc];simp only[aS];rfl
theorem NU(ho:ae (aa L i) [40]=true)(hc:ae (aa L (i+1)) [110,101,120,116]=true):dE L F r i s fn=r 1 (i+2) s fn:=by
 unfold dE;rw[ho,aZ hc];simp only[aS];rfl
theorem NM(ho:ae (aa L i) [40]=true)(hc:ae (aa L (i+1)) [100,111]=true):dE L F r i s fn=(if bc (dI L (i+2)) s then false else r 1 (i+2) s (fn||F i.toNat)):=by
 unfold dE;rw[ho,aZ hc];simp only[aS];rfl
theorem NO(ho:ae (aa L i) [40]=true)(hc:ae (aa L (i+1)) [102,111,114]=true):dE L F r i s fn=(if r 0 (i+3) s fn||r 0 (ag L (i+3)) s fn then true else !dJ (aa L (i+2)) s&&r 0 (ag L (ag L (i+3))) s fn):=by
 unfold dE;rw[ho,aZ hc];simp only[aS];rfl
theorem NN(ho:ae (aa L i) [40]=true)(hc:ae (aa L (i+1)) [102,110]=true):dE L F r i s fn=(if bc ((aT L (i+3)).map (be L)) s then false else if(aT L (i+3)).any (fun p=>ae (aa L p) [40]&&r 0 (p+2) s true)then true else if bc (dI L (jR L i)) s then false else r 1 (jR L i) s true):=by
 unfold dE;rw[ho,aZ hc];simp only[aS];rfl
end
section
variable {L:af} {F:Nat→Bool} {i:Int} {m n:Nat} {E:Q.bj} {lp:Bool}
theorem uF{c:List UInt8}(hv:aH L i)(ho:ae (aa L i) [40]=true)(hc:ae (aa L (i+1)) c=true)(h1:cP c 1=none):fm L 1 i≠-1:=by
 rcases hv with h|h
 ·exfalso;have he:=mB (L:=L) (i:=i) 1 (by decide) ho;rw[aZ hc,bE,h1]at he;exact h he
 ·exact h
theorem jy(n:Nat)(a:Int)(s:ByteArray)(fn:Bool){k:Nat}{e:Int}(hk:dd L k a e)(he:ae (aa L e) [41]=true):us L F (n+1) 1 a s fn=true↔∃x∈ar L k a,us L F n 0 x s fn=true:=by
 have hse:=dH he;show(aT L a).any _=true↔_;rw[ef hk hse.1 (by omega) (bP he),List.any_eq_true]
theorem l6{s:ByteArray}{fn:Bool}:¬∃u∈([]:List (Int × Int × Bool)),u.2.2=false∧aa L u.1=s∧fn=true:=fun ⟨_,h,_⟩=>by cases h
theorem ra(hv:aH L i)(ho:ae (aa L i) [40]=true)(h1:aV (aa L (i+2))=true)(h2:i+2<(L.length:Int)):bd L 2 (i+1) (i+3)∧(∀d,i<d→d<i+3→bU L d=false)∧i+2∈ar L 2 (i+1):=by
 have hit:=(hv.parts ho).1;have hp:=hv.plain ho;have h0:=(bF ho).1;have hn:ag L (i+2)=i+3:=by
  rw[gw (by omega) h2 (dD h1)];omega
 refine⟨⟨by omega,by rw[hit];exact⟨by omega,hn⟩⟩,fun d d1 d2=>?_,?_⟩
 ·by_cases hd:d=i+1
  ·subst hd;exact iT hp.1
  ·have:d=i+2:=by omega
   subst this;exact iT (dD h1).1
 ·show i+2∈[i+1,ag L (i+1)];rw[hit];simp
theorem rL(hv:aH L i)(ho:ae (aa L i) [40]=true):bd L 1 (i+1) (i+2)∧∀d,i<d→d<i+2→bU L d=false:=by
 have hit:=(hv.parts ho).1;have hp:=hv.plain ho;have h0:=(bF ho).1;refine⟨⟨by omega,hit⟩,fun d d1 d2=>?_⟩;have:d=i+1:=by omega
 subst this;exact iT hp.1
theorem BJ(h:aH L i)(ho:ae (aa L i) [40]=true)(c:List UInt8)(hc:ae (aa L (i+1)) c=true)(hcs:c=[108,101,116]∨c=[115,101,116]) :
  i+2<(L.length:Int)∧aV (aa L (i+2))=true∧∃e,dd L 1 (i+3) e∧ae (aa L e) [41]=true∧ag L i=e+1:=by
 have hw:cC L ([4,1],none) (i+2)≠-1∧ag L i=cC L ([4,1],none) (i+2):=by
  rcases hcs with rfl|rfl
  ·exact h.word ho _ _ hc (Or.inr rfl) (Or.inl rfl)
  ·exact h.word ho _ _ hc (Or.inr rfl) (Or.inl rfl)
 obtain⟨c1,c2,c3,c4⟩:=gK hw.1;have e1:eH L none (bW L [4,1] (i+2))=aJ L 1 (aJ L 4 (i+2)):=rfl;simp only at c1 c2 c3 c4;rw[e1]at c1 c2 c3 c4;have hn:aJ L 4 (i+2)≠-1:=fun he=>by rw[he,jV]at c2;omega
 have hp:=lv hn;rw[hp.1,show i+2+1=i+3 by omega]at c1 c2 c3 c4;have hs:=jU (L:=L) (i:=i+3) (w:=1) (Or.inl rfl) (by omega);exact⟨hp.2.2.2,hp.2.1,_,⟨hs.1,hs.2⟩,c4,by rw[hw.2,c1]⟩
theorem My(hv:aH L i)(ho:ae (aa L i) [40]=false):∃pre Sub,iF L F i (m+1) (n+2) E lp pre Sub:=by
 have hve:=hv.ends;have hit:ag L i=i+1:=mG (by omega) ho;refine⟨if aV (aa L i)then [(i,Q.bX L false E (aa L i),false)]else [],[],?_,fun u hu=>?_,(fun t ht=>by cases ht),List.Pairwise.nil,(fun d d1 d2 _=>by omega),fun s fn hs=>?_⟩
 ·have:(Q.wk L (m+1) 0 false i ⟨E,lp⟩)=if aV (aa L i)then Q.df L ⟨E,lp⟩ i else Q.Ot.none:=Q.AF (Q.wk L m) ⟨E,lp⟩ ho
  rw[this];cases aV (aa L i)<;>rfl
 ·split at hu
  ·rw[List.mem_singleton]at hu;subst hu;refine⟨Int.le_refl _,by simp only;omega,rfl,fun q hq hqi=>?_⟩;have:=hq.2.1;simp only at this;omega
  ·cases hu
 ·have hu:us L F (n+2) 0 i s fn=(fn&&dJ (aa L i) s):=by
   show dE L F _ i s fn=_;unfold dE;rw[ho];rfl
  rw[hu,Bool.and_eq_true,sB]
  constructor
  ·rintro⟨h1,h2⟩;left;rw[h2,hs,if_pos rfl];exact⟨_,List.mem_singleton.mpr rfl,rfl,h2,h1⟩
  ·rintro(⟨u,h1,h2,h3,h4⟩|⟨t,ht,_⟩)
   ·split at h1
    ·rw[List.mem_singleton]at h1;subst h1;exact⟨h4,h3⟩
    ·cases h1
   ·cases ht
theorem MA(hv:aH L i)(ho:ae (aa L i) [40]=true)(hc:ae (aa L (i+1)) [108,101,116]=true)(hm:2*aB L i+1≤m+1)(hn:2*aB L i≤n+2):∃pre Sub,iF L F i (m+1) (n+2) E lp pre Sub:=by
 obtain⟨q0,q1,e,q2,q3,q4⟩:=BJ hv ho _ hc (Or.inl rfl);obtain⟨j1,j2,j3⟩:=ra hv ho q1 q0;refine⟨[],_,mj ho j1 q2 q3 q4 j2 (jT hc (by decide) (by decide) (by decide)) hm hn (fun _=>lp) ?_ (fun u hu=>by cases hu) fun s fn hs=>?_⟩
 ·have:Q.wk L (m+1) 0 false i ⟨E,lp⟩=Q.wk L m 0 false (i+3) ⟨E,lp⟩:=Q.AN (Q.wk L m) ⟨E,lp⟩ ho hc;rw[this];show _=[]++[i+3].flatMap _;simp
 ·have hu:us L F (n+2) 0 i s fn=us L F (n+1) 1 (i+3) s fn:=NT (us L F (n+1)) s fn ho hc;rw[hu,jy n _ s fn q2 q3];exact⟨Or.inr,fun h=>h.resolve_left l6⟩
theorem MD(hv:aH L i)(ho:ae (aa L i) [40]=true)(hc:ae (aa L (i+1)) [115,101,116]=true)(hm:2*aB L i+1≤m+1)(hn:2*aB L i≤n+2):∃pre Sub,iF L F i (m+1) (n+2) E lp pre Sub:=by
 obtain⟨q0,q1,e,q2,q3,q4⟩:=BJ hv ho _ hc (Or.inr rfl);obtain⟨j1,j2,j3⟩:=ra hv ho q1 q0;refine⟨[(i+2,Q.bX L false E (aa L (i+2)),false)],_,mj ho j1 q2 q3 q4 j2 (jT hc (by decide) (by decide) (by decide)) hm hn (fun _=>lp) ?_ (fun u hu=>?_) fun s fn hs=>?_⟩
 ·have:Q.wk L (m+1) 0 false i ⟨E,lp⟩=(Q.df L ⟨E,lp⟩ (i+2)).add (Q.wk L m 0 false (i+3) ⟨E,lp⟩):=Q.AQ (Q.wk L m) ⟨E,lp⟩ ho hc;rw[this];show _=_++[i+3].flatMap _;simp only[List.flatMap_cons,List.flatMap_nil,List.append_nil];rfl
 ·rw[List.mem_singleton]at hu;subst hu;exact⟨j3,rfl⟩
 ·have hu:us L F (n+2) 0 i s fn=(if fn&&dJ (aa L (i+2)) s then true else us L F (n+1) 1 (i+3) s fn):=NV (us L F (n+1)) s fn ho hc;rw[hu];constructor
  ·intro h;split at h
   ·rename_i h1;rw[Bool.and_eq_true,sB]at h1;exact Or.inl ⟨_,List.mem_singleton.mpr rfl,rfl,h1.2,h1.1⟩
   ·exact Or.inr ((jy n _ s fn q2 q3).1 h)
  ·rintro(⟨u,h1,h2,h3,h4⟩|h)
   ·rw[List.mem_singleton]at h1;subst h1;simp only at h3;rw[if_pos (by rw[Bool.and_eq_true,sB];exact⟨h4,h3⟩)]
   ·split
    ·rfl
    ·exact(jy n _ s fn q2 q3).2 h
theorem ME(hv:aH L i)(ho:ae (aa L i) [40]=true)(hc:ae (aa L (i+1)) [116,97,107,101]=true)(hm:2*aB L i+1≤m+1)(hn:2*aB L i≤n+2):∃pre Sub,iF L F i (m+1) (n+2) E lp pre Sub:=by
 have hd:=uF hv ho hc rfl;obtain⟨t1,t2,t3,t4,t5,t6⟩:=mo hd (aZ hc);obtain⟨s1,s2,s3,s4⟩:=hv.OY ho hc;have hl:=fR hd;have hk:=rH (L:=L) (fm L 5 (i+4)-(i+3)).toNat (i+3) (fm L 5 (i+4)) (by omega) (by omega) (by omega) t4;obtain⟨o0,o1⟩:=bF t5;have hit2:=(na (i:=i+2) (x:=fm L 5 (i+4)) o0 o1 t5 (by rw[show i+2+1=i+3 by omega];exact hk) t2 t3).2;have hit:=(hv.parts ho).1;have hp:=hv.plain ho;have hw:=hv.word ho _ ([5,1],none) hc (Or.inr rfl) (Or.inl rfl);obtain⟨c1,c2,c3,c4⟩:=gK hw.1;have d1:cC L ([5,1],none) (i+2)=aJ L 1 (aJ L 5 (i+2))+1:=c1;have d2:0≤aJ L 1 (aJ L 5 (i+2)):=c2;have d4:ae (aa L (aJ L 1 (aJ L 5 (i+2)))) [41]=true:=c4;have e5:aJ L 5 (i+2)=ag L (i+2):=by
  rw[hit2];show aK L (fm L 5 (aU L (aK L (i+2) [40]))) [41]=_;have hnm:aU L (i+2+1)=i+4:=by
   unfold aU;rw[show i+2+1=i+3 by omega,t4 (i+3) (Int.le_refl _) (by omega)];simp;omega
  rw[ls t5,hnm,ls t3]
 rw[e5]at d1 d2 d4;have hs:=jU (L:=L) (i:=ag L (i+2)) (w:=1) (Or.inl rfl) (by omega);have q2:dd L 1 (ag L (i+2)) (aJ L 1 (ag L (i+2))):=⟨hs.1,hs.2⟩;have q4:ag L i=aJ L 1 (ag L (i+2))+1:=by rw[hw.2,d1]
 have j1:bd L 2 (i+1) (ag L (i+2)):=⟨by omega,by rw[hit];exact⟨by omega,rfl⟩⟩;have j2:∀d,i<d→d<ag L (i+2)→bU L d=false:=fun d e1 e2=>by
  by_cases h1:d=i+1
  ·subst h1;exact iT hp.1
  ·by_cases h2:d=i+2
   ·subst h2;refine zz ?_;rw[show i+2+1=i+3 by omega];exact t4 (i+3) (Int.le_refl _) (by omega)
   ·by_cases h3:d=fm L 5 (i+4)
    ·subst h3;exact iT (aQ t3 (by decide))
    ·exact iT (dD (t4 d (by omega) (by omega))).1
 refine⟨[],_,mj ho j1 q2 d4 q4 j2 (jT hc (by decide) (by decide) (by decide)) hm hn (fun _=>lp) ?_ (fun u hu=>by cases hu) fun s fn hs=>?_⟩
 ·have:Q.wk L (m+1) 0 false i ⟨E,lp⟩=Q.wk L m 0 false (ag L (i+2)) ⟨E,lp⟩:=Q.AR (Q.wk L m) ⟨E,lp⟩ ho hc;rw[this];show _=[]++[ag L (i+2)].flatMap _;simp
 ·have hu:us L F (n+2) 0 i s fn=us L F (n+1) 1 (ag L (i+2)) s fn:=NW (us L F (n+1)) s fn ho hc;rw[hu,jy n _ s fn q2 d4];exact⟨Or.inr,fun h=>h.resolve_left l6⟩
theorem Mv(hv:aH L i)(ho:ae (aa L i) [40]=true)(hc:ae (aa L (i+1)) [104,103,101,116]=true)(hm:2*aB L i+1≤m+1)(hn:2*aB L i≤n+2):∃pre Sub,iF L F i (m+1) (n+2) E lp pre Sub:=by
 obtain⟨q0,q1,k,e,q2,q3,q4⟩:=hv.OQ ho _ hc (Or.inl rfl);obtain⟨j1,j2,j3⟩:=ra hv ho q1 q0;have hse:=dH q3;refine⟨[(i+2,Q.bX L true E (aa L (i+2)),true)],_,mj ho j1 q2 q3 q4 j2 (jT hc (by decide) (by decide) (by decide)) hm hn (fun _=>lp) ?_ (fun u hu=>?_) fun s fn hs=>?_⟩
 ·have:Q.wk L (m+1) 0 false i ⟨E,lp⟩=(Q.dw L ⟨E,lp⟩ (i+2)).add (Q.aW (fun p=>Q.wk L m 0 false p ⟨E,lp⟩) (aT L (i+3))):=Q.AJ (Q.wk L m) ⟨E,lp⟩ ho hc;rw[this,ef q2 hse.1 (by omega) (bP q3)];show _++(Q.aW _ _).us=_;rw[mU];rfl
 ·rw[List.mem_singleton]at hu;subst hu;exact⟨j3,rfl⟩
 ·have hu:us L F (n+2) 0 i s fn=us L F (n+1) 1 (i+3) s fn:=NP (us L F (n+1)) s fn ho hc;rw[hu,jy n _ s fn q2 q3];refine⟨Or.inr,fun h=>h.resolve_left ?_⟩;rintro⟨u,h1,h2,_⟩;rw[List.mem_singleton]at h1;subst h1;cases h2
theorem Mx(hv:aH L i)(ho:ae (aa L i) [40]=true)(hc:ae (aa L (i+1)) [104,112,117,116]=true)(hm:2*aB L i+1≤m+1)(hn:2*aB L i≤n+2):∃pre Sub,iF L F i (m+1) (n+2) E lp pre Sub:=by
 obtain⟨q0,q1,k,e,q2,q3,q4⟩:=hv.OQ ho _ hc (Or.inr rfl);obtain⟨j1,j2,j3⟩:=ra hv ho q1 q0;have hse:=dH q3;refine⟨[(i+2,Q.bX L true E (aa L (i+2)),true)],_,mj ho j1 q2 q3 q4 j2 (jT hc (by decide) (by decide) (by decide)) hm hn (fun _=>lp) ?_ (fun u hu=>?_) fun s fn hs=>?_⟩
 ·have:Q.wk L (m+1) 0 false i ⟨E,lp⟩=(Q.dw L ⟨E,lp⟩ (i+2)).add (Q.aW (fun p=>Q.wk L m 0 false p ⟨E,lp⟩) (aT L (i+3))):=Q.AL (Q.wk L m) ⟨E,lp⟩ ho hc;rw[this,ef q2 hse.1 (by omega) (bP q3)];show _++(Q.aW _ _).us=_;rw[mU];rfl
 ·rw[List.mem_singleton]at hu;subst hu;exact⟨j3,rfl⟩
 ·have hu:us L F (n+2) 0 i s fn=us L F (n+1) 1 (i+3) s fn:=NR (us L F (n+1)) s fn ho hc;rw[hu,jy n _ s fn q2 q3];refine⟨Or.inr,fun h=>h.resolve_left ?_⟩;rintro⟨u,h1,h2,_⟩;rw[List.mem_singleton]at h1;subst h1;cases h2
theorem Mw(hv:aH L i)(ho:ae (aa L i) [40]=true)(hc:ae (aa L (i+1)) [104,105,100,100,101,110]=true):∃pre Sub,iF L F i (m+1) (n+2) E lp pre Sub:=by
 have hd:=uF hv ho hc rfl;obtain⟨h1,h2,h3,h4,h5⟩:=kT hd (aZ hc) nB;have hp:=hv.plain ho;have hdi:=iS hd;refine⟨[],[],?_,(fun u hu=>by cases hu),(fun t ht=>by cases ht),List.Pairwise.nil,fun d d1 d2 d3=>?_,fun s fn hs=>?_⟩
 ·have:Q.wk L (m+1) 0 false i ⟨E,lp⟩=Q.Ot.none:=Q.AK (Q.wk L m) ⟨E,lp⟩ ho hc;rw[this];rfl
 ·exfalso;have key:bU L d=false:=by
   by_cases e1:d=i+1
   ·subst e1;exact iT hp.1
   ·by_cases e2:d=fm L 5 (i+2)
    ·subst e2;exact iT (aQ h3 (by decide))
    ·exact iT (dD (h4 d (by omega) (by omega))).1
  rw[key]at d3;cases d3
 ·have hu:us L F (n+2) 0 i s fn=false:=NQ (us L F (n+1)) s fn ho hc;rw[hu];refine⟨(fun h=>by cases h),?_⟩;rintro(⟨u,h,_⟩|⟨t,h,_⟩)
  ·cases h
  ·cases h
theorem MF(hv:aH L i)(ho:ae (aa L i) [40]=true)(hc:ae (aa L (i+1)) [118,97,114,115]=true):∃pre Sub,iF L F i (m+1) (n+2) E lp pre Sub:=by
 have hd:=uF hv ho hc rfl;obtain⟨h1,h2,h3,h4,h5⟩:=kT hd (aZ hc) nC;have hp:=hv.plain ho;have hdi:=iS hd;refine⟨[],[],?_,(fun u hu=>by cases hu),(fun t ht=>by cases ht),List.Pairwise.nil,fun d d1 d2 d3=>?_,fun s fn hs=>?_⟩
 ·have:Q.wk L (m+1) 0 false i ⟨E,lp⟩=Q.Ot.none:=Q.AS (Q.wk L m) ⟨E,lp⟩ ho hc;rw[this];rfl
 ·exfalso;have key:bU L d=false:=by
   by_cases e1:d=i+1
   ·subst e1;exact iT hp.1
   ·by_cases e2:d=fm L 5 (i+2)
    ·subst e2;exact iT (aQ h3 (by decide))
    ·exact iT (dD (h4 d (by omega) (by omega))).1
  rw[key]at d3;cases d3
 ·have hu:us L F (n+2) 0 i s fn=false:=NX (us L F (n+1)) s fn ho hc;rw[hu];refine⟨(fun h=>by cases h),?_⟩;rintro(⟨u,h,_⟩|⟨t,h,_⟩)
  ·cases h
  ·cases h
theorem Mz(hv:aH L i)(ho:ae (aa L i) [40]=true)(hc:ae (aa L (i+1)) [108,101,97,118,101]=true)(hm:2*aB L i+1≤m+1)(hn:2*aB L i≤n+2):∃pre Sub,iF L F i (m+1) (n+2) E lp pre Sub:=by
 have hw:=hv.word ho _ ([],none) hc (Or.inr rfl) (Or.inl rfl);obtain⟨c1,c2,c3,c4⟩:=gK hw.1;have d1:cC L ([],none) (i+2)=i+2+1:=c1;have d4:ae (aa L (i+2)) [41]=true:=c4;obtain⟨j1,j2⟩:=rL hv ho;have q2:dd L 0 (i+2) (i+2):=rfl;refine⟨[],_,mj ho j1 q2 d4 (by rw[hw.2,d1]) j2 (jT hc (by decide) (by decide) (by decide)) hm hn (fun _=>lp) ?_ (fun u hu=>by cases hu) fun s fn hs=>?_⟩
 ·have:Q.wk L (m+1) 0 false i ⟨E,lp⟩=Q.cB (!lp):=Q.AM (Q.wk L m) ⟨E,lp⟩ ho hc;rw[this];rfl
 ·have hu:us L F (n+2) 0 i s fn=us L F (n+1) 1 (i+2) s fn:=NS (us L F (n+1)) s fn ho hc;rw[hu,jy n _ s fn q2 d4];exact⟨Or.inr,fun h=>h.resolve_left l6⟩
theorem MB(hv:aH L i)(ho:ae (aa L i) [40]=true)(hc:ae (aa L (i+1)) [110,101,120,116]=true)(hm:2*aB L i+1≤m+1)(hn:2*aB L i≤n+2):∃pre Sub,iF L F i (m+1) (n+2) E lp pre Sub:=by
 have hw:=hv.word ho _ ([],none) hc (Or.inr rfl) (Or.inl rfl);obtain⟨c1,c2,c3,c4⟩:=gK hw.1;have d1:cC L ([],none) (i+2)=i+2+1:=c1;have d4:ae (aa L (i+2)) [41]=true:=c4;obtain⟨j1,j2⟩:=rL hv ho;have q2:dd L 0 (i+2) (i+2):=rfl;refine⟨[],_,mj ho j1 q2 d4 (by rw[hw.2,d1]) j2 (jT hc (by decide) (by decide) (by decide)) hm hn (fun _=>lp) ?_ (fun u hu=>by cases hu) fun s fn hs=>?_⟩
 ·have:Q.wk L (m+1) 0 false i ⟨E,lp⟩=Q.cB (!lp):=Q.AO (Q.wk L m) ⟨E,lp⟩ ho hc;rw[this];rfl
 ·have hu:us L F (n+2) 0 i s fn=us L F (n+1) 1 (i+2) s fn:=NU (us L F (n+1)) s fn ho hc;rw[hu,jy n _ s fn q2 d4];exact⟨Or.inr,fun h=>h.resolve_left l6⟩
theorem MG(hv:aH L i)(ho:ae (aa L i) [40]=true)(hc:ae (aa L (i+1)) [119,104,105,108,101]=true)(hm:2*aB L i+1≤m+1)(hn:2*aB L i≤n+2):∃pre Sub,iF L F i (m+1) (n+2) E lp pre Sub:=by
 have hw:=hv.word ho _ ([1,2],none) hc (Or.inr rfl) (Or.inl rfl);obtain⟨c1,c2,c3,c4⟩:=gK hw.1;have d1:cC L ([1,2],none) (i+2)=bW L [1,2] (i+2)+1:=c1;have d2:0≤bW L [1,2] (i+2):=c2;have d4:ae (aa L (bW L [1,2] (i+2))) [41]=true:=c4;obtain⟨j1,j2⟩:=rL hv ho;have q2:dd L 2 (i+2) (bW L [1,2] (i+2)):=oh [1,2] (i+2) (by decide) (by omega);have hve:=q2.1.ends;refine⟨[],_,mj ho j1 q2 d4 (by rw[hw.2,d1]) j2 (jT hc (by decide) (by decide) (by decide)) hm hn (fun x=>if x=i+2 then lp else true) ?_ (fun u hu=>by cases hu) fun s fn hs=>?_⟩
 ·have:Q.wk L (m+1) 0 false i ⟨E,lp⟩=(Q.wk L m 0 false (i+2) ⟨E,lp⟩).add (Q.wk L m 0 false (ag L (i+2)) (Q.cj ⟨E,lp⟩ true)):=Q.AT (Q.wk L m) ⟨E,lp⟩ ho hc;rw[this];show _=[]++[i+2,ag L (i+2)].flatMap _;simp only[List.flatMap_cons,List.flatMap_nil,List.append_nil,List.nil_append,if_true];rw[if_neg (by omega)];rfl
 ·have hu:us L F (n+2) 0 i s fn=us L F (n+1) 1 (i+2) s fn:=NY (us L F (n+1)) s fn ho hc;rw[hu,jy n _ s fn q2 d4];exact⟨Or.inr,fun h=>h.resolve_left l6⟩
theorem MC(hv:aH L i)(ho:ae (aa L i) [40]=true)(hhidden:ae (aa L (i+1)) [104,105,100,100,101,110]=false)(hvars:ae (aa L (i+1)) [118,97,114,115]=false)(hlet:ae (aa L (i+1)) [108,101,116]=false)(htake:ae (aa L (i+1)) [116,97,107,101]=false)(hset:ae (aa L (i+1)) [115,101,116]=false)(hhget:ae (aa L (i+1)) [104,103,101,116]=false)(hhput:ae (aa L (i+1)) [104,112,117,116]=false)(hfn:ae (aa L (i+1)) [102,110]=false)(hdo:ae (aa L (i+1)) [100,111]=false)(hwhile:ae (aa L (i+1)) [119,104,105,108,101]=false)(hfor:ae (aa L (i+1)) [102,111,114]=false)(hleave:ae (aa L (i+1)) [108,101,97,118,101]=false)(hnext:ae (aa L (i+1)) [110,101,120,116]=false)(hm:2*aB L i+1≤m+1)(hn:2*aB L i≤n+2):∃pre Sub,iF L F i (m+1) (n+2) E lp pre Sub:=by
 obtain⟨k,e,q2,q3,q4⟩:=hv.items ho hfn hdo hlet hset htake hhget hhput hhidden hvars hfor;obtain⟨j1,j2⟩:=rL hv ho;have hse:=dH q3;refine⟨[],_,mj ho j1 q2 q3 q4 j2 (ES hfn hdo hfor) hm hn (fun _=>lp) ?_ (fun u hu=>by cases hu) fun s fn hs=>?_⟩
 ·have:Q.wk L (m+1) 0 false i ⟨E,lp⟩=Q.aW (fun p=>Q.wk L m 0 false p ⟨E,lp⟩) (aT L (i+2)):=Q.AP (Q.wk L m) ⟨E,lp⟩ ho hhidden hvars hlet htake hset hhget hhput hfn hdo hwhile hfor hleave hnext;rw[this,ef q2 hse.1 (by omega) (bP q3),mU];rfl
 ·have hu:us L F (n+2) 0 i s fn=us L F (n+1) 1 (i+2) s fn:=by
   show dE L F _ i s fn=_;unfold dE;rw[ho,hfn,hdo,hlet,hhget,hhput,hset,htake,hhidden,hvars,hfor];rfl
  rw[hu,jy n _ s fn q2 q3]
  exact⟨Or.inr,fun h=>h.resolve_left l6⟩
end
section
variable {L:af} {F:Nat→Bool} {i:Int} {m n:Nat} {E:Q.bj} {lp:Bool}
theorem mW{b:Bool}{p k:Int}(h:k∈Q.aN L b p):k∈dm L p∧cY L p=b:=by
 unfold Q.aN at h;split at h
 ·rename_i h1;exact⟨h,h1⟩
 ·cases h
theorem KE{p:Int}(h:fm L 1 p≠-1):(Q.aN L false p).map (aa L)=aN L false p:=by
 unfold Q.aN;cases hb:cY L p
 ·rw[if_pos rfl,(mh h).1,hb]
 ·rw[if_neg (by decide),Cb hb];rfl
theorem oT:∀ps:List Int,(∀p∈ps,fm L 1 p≠-1)→(ps.flatMap (Q.aN L false)).map (aa L)=ps.flatMap (aN L false)
 |[],_=>rfl
 |p::ps,h=>by
  rw[List.flatMap_cons,List.flatMap_cons,List.map_append,KE (h p (List.mem_cons_self ..)),oT ps fun q hq=>h q (List.mem_cons_of_mem _ hq)]
theorem r7{k:Nat}{a e o:Int}(hd:ey L k a e)(hpar:∀p∈ar L k a,∀q,bH L q p↔(bH L q o∨q=o))(ho:eh L o=true)(b:Bool):∀y∈(ar L k a).flatMap (Q.aN L b),0≤y∧Ow L o y:=fun y hy=>by
 obtain⟨p,hp,hyp⟩:=List.mem_flatMap.mp hy;have hdl:=(eK k a hd).2 p hp;have h1:=(mW hyp).1;have h2:=(mh hdl).2 y h1;have h3:=fR hdl;exact⟨by omega,Ke hdl (hpar p hp) ho h1⟩
theorem xm(hv:aH L i)(ho:ae (aa L i) [40]=true)(hc:ae (aa L (i+1)) [100,111]=true)(hm:2*aB L i+1≤m+2)(hn:2*aB L i≤n+2):∃pre Sub,iF L F i (m+2) (n+2) E lp pre Sub∧pre=[]∧Sub=(aT L (i+2)).map fun x=>⟨x,[((aT L (i+2)).flatMap (Q.aN L false),(aT L (i+2)).flatMap (Q.aN L true))],m,n,lp⟩:=by
 obtain⟨k,e,q1d,q2,q3⟩:=hv.OK ho hc;have hse:=dH q2;have h0:=(bF ho).1;obtain⟨q1,hdl⟩:=eK k _ q1d;obtain⟨j1,j2⟩:=rL hv ho;have hkI:=iv k _ q1;obtain⟨hch,hP⟩:=qh 1 k _ j1 hkI;have hplc:=ef q1 hse.1 (by omega) (bP q2);have hlt:=jz k _ q1 hse.1;have hmem:∀x,x∈ar L k (i+2)→x∈ar L (1+k) (i+1):=fun x hx=>by rw[hP];exact List.mem_append.mpr (Or.inr hx)
 have hpar:∀p∈ar L k (i+2),∀q,bH L q p↔(bH L q i∨q=i):=fun p hp q=>eg ho hch hse.1 q3 (hmem p hp)
 have hdf:=uG hc;have hP1:=r7 q1d hpar hdf false;have hP2:=r7 q1d hpar hdf true;have hkp:jm L F i=F i.toNat:=by
  unfold jm dt;rw[ho,hc,aQ hc (by decide)];rfl
 rw[hplc];refine⟨[],_,⟨?_,(fun u hu=>by cases hu),fun t ht=>?_,?_,fun d d1 d2 d3=>?_,fun s fn hs=>?_⟩,rfl,rfl⟩
 ·have e1:Q.wk L (m+2) 0 false i ⟨E,lp⟩=Q.wk L (m+1) 1 false (i+2) ⟨E,lp⟩:=Q.AG (Q.wk L (m+1)) ⟨E,lp⟩ ho hc;have e2:(Q.wk L (m+1) 1 false (i+2) ⟨E,lp⟩).us=(Q.aW (fun p=>Q.wk L m 0 false p (Q.oK ⟨E,lp⟩ ((aT L (i+2)).flatMap (Q.aN L false)) ((aT L (i+2)).flatMap (Q.aN L true)))) (aT L (i+2))).us:=rfl;rw[e1,e2,mU,hplc,List.flatMap_map];rfl
 ·obtain⟨x,hx,rfl⟩:=List.mem_map.mp ht;obtain⟨c1,c2,c3,c4⟩:=hlt x hx;have hfar:=dC (L:=L) (i:=i) (j:=x) h0 (by omega) (by omega);refine⟨c3,(hpar x hx i).2 (Or.inr rfl),fun Z hZ=>?_,fun q hq hqi=>?_,?_,?_,?_⟩
  ·rw[List.mem_singleton]at hZ;subst hZ;exact⟨hP1,hP2⟩
  ·rcases (hpar x hx q).1 hq with h1|rfl
   ·have:=h1.2.1;omega
   ·omega
  ·show 2*aB L x+1≤m;omega
  ·show 2*aB L x≤n;omega
  ·show aB L x<aB L i;omega
 ·rw[List.pairwise_map];exact nA k _ q1 hse.1
 ·by_cases hda:d<i+2
  ·rw[j2 d d1 hda]at d3;cases d3
  ·have hde:d≠e:=fun h=>by
    rw[h,iT (aQ q2 (by decide))]at d3;cases d3
   obtain⟨c,cm,c1,c2,c3⟩:=mz (q:=d) k _ hkI (by omega) (by omega)
   exact⟨_,List.mem_map.mpr ⟨c,cm,rfl⟩,c1,c2⟩
 ·have hu:us L F (n+2) 0 i s fn=(if bc (dI L (i+2)) s then false else us L F (n+1) 1 (i+2) s (fn||F i.toNat)):=NM (us L F (n+1)) s fn ho hc;have hdn:dI L (i+2)=((ar L k (i+2)).flatMap (Q.aN L false)).map (aa L):=by
   unfold dI;rw[hplc,oT _ hdl]
  rw[hu,hdn,mD fun p hp=>(hP1 p hp).1,hkp];constructor
  ·intro h;split at h
   ·cases h
   ·rename_i h1;obtain⟨x,hx,h2⟩:=(jy n _ s _ q1 q2).1 h;refine Or.inr ⟨_,List.mem_map.mpr ⟨x,hx,rfl⟩,fun Z hZ=>?_,h2⟩;rw[List.mem_singleton]at hZ;subst hZ;exact fun h3=>h1 (decide_eq_true h3)
  ·rintro(h1|⟨t,ht,h1,h2⟩)
   ·exact absurd h1 l6
   ·obtain⟨x,hx,rfl⟩:=List.mem_map.mp ht;rw[if_neg (fun h3=>h1 _ (List.mem_singleton.mpr rfl) (of_decide_eq_true h3))];exact(jy n _ s _ q1 q2).2 ⟨x,hx,h2⟩
theorem Mu(hv:aH L i)(ho:ae (aa L i) [40]=true)(hc:ae (aa L (i+1)) [102,111,114]=true)(hm:2*aB L i+1≤m+2)(hn:2*aB L i≤n+2):∃pre Sub,iF L F i (m+2) (n+2) E lp pre Sub:=by
 have h0:=(bF ho).1;have hp:=hv.plain ho;have hit1:=(hv.parts ho).1;have hw:=hv.word ho _ ([4,1,1,2],none) hc (Or.inr rfl) (Or.inl rfl);obtain⟨c1,c2,c3,c4⟩:=gK hw.1;have d1:cC L ([4,1,1,2],none) (i+2)=bW L [1,1,2] (aJ L 4 (i+2))+1:=c1;have d2:0≤bW L [1,1,2] (aJ L 4 (i+2)):=c2;have d4:ae (aa L (bW L [1,1,2] (aJ L 4 (i+2)))) [41]=true:=c4;have hnn:aJ L 4 (i+2)≠-1:=fun he=>by rw[he,me]at d2;omega
 have hnp:=lv hnn;rw[hnp.1,show i+2+1=i+3 by omega]at d1 d2 d4;have q1:dd L 3 (i+3) (bW L [1,1,2] (i+3)):=oh [1,1,2] (i+3) (by decide) (by omega);generalize bW L [1,1,2] (i+3)=e at d1 d2 d4 q1;have hse:=dH d4;have q3:ag L i=e+1:=by rw[hw.2,d1]
 obtain⟨j1,j2,j3⟩:=ra hv ho hnp.2.1 hnp.2.2.2;have hkI:=iv 3 _ q1;obtain⟨hch,hP⟩:=qh 2 3 _ j1 hkI;have hlt:=jz 3 _ q1 hse.1;have hmem:∀x,x∈ar L 3 (i+3)→x∈ar L (2+3) (i+1):=fun x hx=>by rw[hP];exact List.mem_append.mpr (Or.inr hx)
 have hpar:∀p∈ar L 3 (i+3),∀q,bH L q p↔(bH L q i∨q=i):=fun p hp q=>eg ho hch hse.1 q3 (hmem p hp)
 have hparn:∀q,bH L q (i+2)↔(bH L q i∨q=i):=fun q=>eg ho hch hse.1 q3 (by rw[hP];exact List.mem_append.mpr (Or.inl j3))
 have how:Ow L i (i+2):=Kc hparn (ER hc);have hkp:jm L F i=false:=by
  unfold jm dt;rw[ho,aQ hc (by decide),aQ hc (by decide)];rfl
 have hpair:=nA 3 _ q1 hse.1;obtain⟨x4,hx4⟩:∃x4,x4=ag L (i+3):=⟨_,rfl⟩;obtain⟨x5,hx5⟩:∃x5,x5=ag L x4:=⟨_,rfl⟩;have hL3:ar L 3 (i+3)=[i+3,x4,x5]:=by
  show [i+3,ag L (i+3),ag L (ag L (i+3))]=_;rw[hx5,hx4]
 rw[hL3]at hlt hpar hpair;have key:∀(x:Int) (B:Q.bj) (b:Bool),x∈[i+3,x4,x5]→(∀Z∈B,(∀y∈Z.1,0≤y∧Ow L i y)∧∀y∈Z.2,0≤y∧Ow L i y)→oI L i ⟨x,B,m+1,n+1,b⟩:=fun x B b hx hB=>by
  obtain⟨c1,c2,c3,c4⟩:=hlt x hx;have hfar:=dC (L:=L) (i:=i) (j:=x) h0 (by omega) (by omega);refine⟨c3,(hpar x hx i).2 (Or.inr rfl),hB,fun q hq hqi=>?_,?_,?_,?_⟩
  ·rcases (hpar x hx q).1 hq with h1|rfl
   ·have:=h1.2.1;omega
   ·omega
  ·show 2*aB L x+1≤m+1;omega
  ·show 2*aB L x≤n+1;omega
  ·show aB L x<aB L i;omega
 refine⟨[],[⟨i+3,[],m+1,n+1,lp⟩,⟨x4,[],m+1,n+1,lp⟩,⟨x5,[([i+2],[])],m+1,n+1,true⟩],?_,(fun u hu=>by cases hu),fun t ht=>?_,?_,fun d e1 e2 e3=>?_,fun s fn hs=>?_⟩
 ·have e1:Q.wk L (m+2) 0 false i ⟨E,lp⟩=(Q.wk L (m+1) 0 false (i+3) ⟨E,lp⟩).add ((Q.wk L (m+1) 0 false (ag L (i+3)) ⟨E,lp⟩).add (Q.wk L (m+1) 0 false (ag L (ag L (i+3))) (Q.cz (Q.cj ⟨E,lp⟩ true) [i+2]))):=Q.AI (Q.wk L (m+1)) ⟨E,lp⟩ ho hc;rw[e1,←hx4,←hx5];simp only[List.flatMap_cons,List.flatMap_nil,List.append_nil,List.nil_append];rfl
 ·simp only[List.mem_cons,List.not_mem_nil,or_false]at ht;rcases ht with rfl|rfl|rfl
  ·exact key _ [] _ (by simp) (fun Z hZ=>by cases hZ)
  ·exact key _ [] _ (by simp) (fun Z hZ=>by cases hZ)
  ·refine key _ [([i+2],[])] _ (by simp) (fun Z hZ=>?_);rw[List.mem_singleton]at hZ;subst hZ;refine⟨fun y hy=>?_,fun y hy=>by cases hy⟩;rw[List.mem_singleton]at hy;subst hy;exact⟨by omega,how⟩
 ·simp only[List.pairwise_cons,List.mem_cons,List.not_mem_nil,or_false,forall_eq_or_imp,forall_eq,List.Pairwise.nil]at hpair ⊢;exact⟨⟨hpair.1.1,hpair.1.2⟩,hpair.2.1,fun _ h=>absurd h id,trivial⟩
 ·by_cases hda:d<i+3
  ·rw[j2 d e1 hda]at e3;cases e3
  ·have hde:d≠e:=fun h=>by
    rw[h,iT (aQ d4 (by decide))]at e3;cases e3
   obtain⟨c,cm,c1,c2,c3⟩:=mz (q:=d) 3 _ hkI (by omega) (by omega)
   rw[hL3]at cm
   simp only[List.mem_cons,List.not_mem_nil,or_false]at cm
   rcases cm with rfl|rfl|rfl
   ·exact⟨_,List.mem_cons_self ..,c1,c2⟩
   ·exact⟨_,List.mem_cons_of_mem _ (List.mem_cons_self ..),c1,c2⟩
   ·exact⟨_,List.mem_cons_of_mem _ (List.mem_cons_of_mem _ (List.mem_cons_self ..)),c1,c2⟩
 ·have hu:us L F (n+2) 0 i s fn=(if us L F (n+1) 0 (i+3) s fn||us L F (n+1) 0 (ag L (i+3)) s fn then true else !dJ (aa L (i+2)) s&&us L F (n+1) 0 (ag L (ag L (i+3))) s fn):=NO (us L F (n+1)) s fn ho hc;rw[hu,←hx4,←hx5,hkp,Bool.or_false];have hfs:(0≤Q.bD L [i+2] s)↔dJ (aa L (i+2)) s=true:=by
   have h1:=mD (L:=L) (P:=[i+2]) (s:=s) (fun p hp=>by rw[List.mem_singleton]at hp;omega);rw[show bc ([i+2].map (aa L)) s=dJ (aa L (i+2)) s by simp[bc,dJ]]at h1;rw[h1];exact(decide_eq_true_iff).symm
  constructor
  ·intro h;right;split at h
   ·rename_i h1;rw[Bool.or_eq_true]at h1;rcases h1 with h1|h1
    ·exact⟨_,List.mem_cons_self ..,(fun Z hZ=>by cases hZ),h1⟩
    ·exact⟨_,List.mem_cons_of_mem _ (List.mem_cons_self ..),(fun Z hZ=>by cases hZ),h1⟩
   ·rw[Bool.and_eq_true]at h;refine⟨_,List.mem_cons_of_mem _ (List.mem_cons_of_mem _ (List.mem_cons_self ..)),fun Z hZ=>?_,h.2⟩;rw[List.mem_singleton]at hZ;subst hZ;intro h2;rw[hfs.1 h2]at h;cases h.1
  ·rintro(h1|⟨t,ht,h1,h2⟩)
   ·exact absurd h1 l6
   ·simp only[List.mem_cons,List.not_mem_nil,or_false]at ht;rcases ht with rfl|rfl|rfl
    ·simp only at h2;rw[h2];rfl
    ·simp only at h2;rw[h2,Bool.or_true];rfl
    ·simp only at h2;split
     ·rfl
     ·rw[Bool.and_eq_true];refine⟨?_,h2⟩;have h3:=h1 _ (List.mem_singleton.mpr rfl);simp only at h3;rw[hfs]at h3;simp[h3]
end
end Go.Proofs.YtdojfommmpnbgaaGreatDoor
