import Derived.Test.YtdojfommmpnbgaaGreatDoorKBJ
namespace Go.Proofs.YtdojfommmpnbgaaGreatDoor
open Go.RowKit
def Pr(n:Nat)(b:Bool)(F G:af):Prop:=cS F∧MO n b F G
theorem vZ:∀k n b F G,MO n b F G→MO (n+k) b F G
 |0,_,_,_,_,h=>h
 |k+1,n,b,F,G,h=>vY _ _ _ _ (vZ k n b F G h)
theorem mY{n:Nat}{b:Bool}{x:ByteArray}(h:bB x):Pr (n+1) b [x] [x]:=⟨qP h,Or.inl ⟨x,rfl,rfl,h.1⟩⟩
theorem AA{M:Bool→af→af→Prop}:∀P:List (af × af),(∀p∈P,cS p.1∧∀l,M l p.1 p.2)→ju M P.length (P.flatMap Prod.fst) (P.flatMap Prod.snd)
 |[],_=>⟨rfl,rfl⟩
 |p::P,h=>⟨p.1,P.flatMap Prod.fst,p.2,P.flatMap Prod.snd,rfl,rfl,(h p (List.mem_cons_self ..)).1,(h p (List.mem_cons_self ..)).2 _,AA P fun q hq=>h q (List.mem_cons_of_mem _ hq)⟩
theorem KV{n:Nat}{b:Bool}{h:ByteArray}(hp:bB h)(h1:ae h [102,110]=false)(h2:ae h [98,97,99,107]=false)(h3:cJ h=none)(h4:fj h=false)(P:List (af × af))(hP:∀p∈P,Pr (n+1) b p.1 p.2):Pr (n+2) b (bg h (P.flatMap Prod.fst)) (bg h (P.flatMap Prod.snd)):=by
 have hi:=AA (M:=fun last X Y=>MO (n+1) (b||fj h) X Y∧(last=false→MO (n+1) b X Y)) (([h],[h])::P) fun p hp'=>by
  rw[h4,Bool.or_false];rcases List.mem_cons.mp hp' with rfl|hp'
  ·exact⟨qP hp,fun _=>⟨(mY hp).2,fun _=>(mY hp).2⟩⟩
  ·exact⟨(hP p hp').1,fun _=>⟨(hP p hp').2,fun _=>(hP p hp').2⟩⟩
 refine⟨qQ (AE _ _ _ hi),Or.inr (Or.inr (Or.inr (Or.inr ⟨h,P.length+1,P.flatMap Prod.fst,h::P.flatMap Prod.snd,rfl,rfl,hp,h1,h2,h3,hi⟩)))⟩
theorem lu(c:List UInt8)(h1:(c==[102,110])=false)(h2:(c==[98,97,99,107])=false)(h3:(c==[108,101,97,118,101])=false)(h4:(c==[110,101,120,116])=false)(h5:(c==[119,104,105,108,101])=false)(h6:(c==[102,111,114])=false) :
  ae (⟨c.toArray⟩:ByteArray) [102,110]=false∧ae (⟨c.toArray⟩:ByteArray) [98,97,99,107]=false∧cJ ⟨c.toArray⟩=none∧fj ⟨c.toArray⟩=false:=by
 have h:=kr c;unfold cJ fj;rw[aQ h h1,aQ h h2,aQ h h3,aQ h h4,aQ h h5,aQ h h6];exact⟨rfl,rfl,rfl,rfl⟩
section
variable {n:Nat} {b:Bool} {f:ByteArray} (hf:bB f)
theorem lz{c:List UInt8}(hp:bB ⟨c.toArray⟩)(h:ae (⟨c.toArray⟩:ByteArray) [102,110]=false∧ae (⟨c.toArray⟩:ByteArray) [98,97,99,107]=false∧cJ ⟨c.toArray⟩=none∧fj ⟨c.toArray⟩=false)(P:List (af × af)){F G:af}(hP:∀p∈P,Pr (n+1) b p.1 p.2)(e1:P.flatMap Prod.fst=F)(e2:P.flatMap Prod.snd=G):Pr (n+2) b (bg ⟨c.toArray⟩ F) (bg ⟨c.toArray⟩ G):=by
 rw[←e1,←e2];exact KV hp h.1 h.2.1 h.2.2.1 h.2.2.2 P hP
include hf
theorem KW{m:ByteArray}(hm:bB m):Pr (n+2) b (jC f m) (jC f m) :=
 lz (c:=[103,101,116]) Cf (lu _ rfl rfl rfl rfl rfl rfl) [([f],[f]),([m],[m])] (fun p hp=>by
  simp only[List.mem_cons,List.not_mem_nil,or_false]at hp;rcases hp with rfl|rfl
  ·exact mY hf
  ·exact mY hm) rfl rfl
theorem Cy{a m:ByteArray}(ha:bB a)(hm:bB m):Pr (n+3) b (fg f a m) (fg f a m) :=
 lz (c:=[61]) tr (lu _ rfl rfl rfl rfl rfl rfl) [(jC f a,jC f a),([m],[m])] (fun p hp=>by
  simp only[List.mem_cons,List.not_mem_nil,or_false]at hp;rcases hp with rfl|rfl
  ·exact KW hf ha
  ·exact mY hm) rfl rfl
theorem KT:Pr (n+1) b (iH 0 f) (iH (if b then 2 else 1) f):=by
 refine⟨C4 hf 0,Or.inr (Or.inr (Or.inl ⟨jC f bV,rfl,tH hf oi,?_⟩))⟩;have e:iH (if b then 2 else 1) f=bg bm (bg cW (bV::jC f bV)):=by unfold iH;cases b<;>rfl
 rw[e];simp[bg]
omit hf in
theorem Cz{h t:ByteArray}(hh:bB h)(hl:cJ h=some t):Pr (n+1) b (dT 0 h t) (dT (if b then 2 else 1) h t) :=
 ⟨fL hh oA,Or.inr (Or.inr (Or.inr (Or.inl ⟨h,t,rfl,hl,by cases b<;>rfl⟩)))⟩
theorem KX:Pr (n+6) b (lG 0 f) (lG (if b then 2 else 1) f):=by
 have k1:Pr (n+2) b (bg cA [f,gZ]) (bg cA [f,gZ]):=lz (c:=[61]) tr (lu _ rfl rfl rfl rfl rfl rfl) [([f],[f]),([gZ],[gZ])] (fun p hp=>by
  simp only[List.mem_cons,List.not_mem_nil,or_false]at hp;rcases hp with rfl|rfl
  ·exact mY hf
  ·exact mY Cj) rfl rfl
 have k2:Pr (n+2) b (bg bx []) (bg bx []):=lz (c:=[100,111]) tq (lu _ rfl rfl rfl rfl rfl rfl) [] (fun p hp=>by cases hp) rfl rfl;have up:∀{k:Nat} {F G:af},Pr (n+k) b F G→∀j,Pr (n+k+j) b F G:=fun h j=>⟨h.1,vZ j _ _ _ _ h.2⟩
 have lv1:cJ dL=some cl:=by unfold cJ;rw[show ae dL [108,101,97,118,101]=true from kr _];rfl
 have lv2:cJ dU=some eR:=by
  have h:=kr [110,101,120,116];have h2:ae dU [108,101,97,118,101]=false:=aQ h rfl;have h3:ae dU [110,101,120,116]=true:=h;unfold cJ;rw[h2,h3];rfl
 have k3:Pr (n+4) b (bg cF (fg f dh cl++(dT 0 dL cl++dT 0 dU eR))) (bg cF (fg f dh cl++(dT (if b then 2 else 1) dL cl++dT (if b then 2 else 1) dU eR))) :=
  lz (c:=[105,102]) pF (lu _ rfl rfl rfl rfl rfl rfl) [(fg f dh cl,fg f dh cl),(dT 0 dL cl,dT (if b then 2 else 1) dL cl),(dT 0 dU eR,dT (if b then 2 else 1) dU eR)] (fun p hp=>by
   simp only[List.mem_cons,List.not_mem_nil,or_false]at hp;rcases hp with rfl|rfl|rfl
   ·exact Cy hf ts rj
   ·exact Cz Ch lv1
   ·exact Cz Ck lv2) (by simp only[List.flatMap_cons,List.flatMap_nil,List.append_nil]) (by simp only[List.flatMap_cons,List.flatMap_nil,List.append_nil])
 have k4:Pr (n+5) b (bg cF (fg f dh bV++(iH 0 f++bg cF (fg f dh cl++(dT 0 dL cl++dT 0 dU eR))))) (bg cF (fg f dh bV++(iH (if b then 2 else 1) f++bg cF (fg f dh cl++(dT (if b then 2 else 1) dL cl++dT (if b then 2 else 1) dU eR))))) :=
  lz (c:=[105,102]) pF (lu _ rfl rfl rfl rfl rfl rfl) [(fg f dh bV,fg f dh bV),(iH 0 f,iH (if b then 2 else 1) f),(bg cF (fg f dh cl++(dT 0 dL cl++dT 0 dU eR)),bg cF (fg f dh cl++(dT (if b then 2 else 1) dL cl++dT (if b then 2 else 1) dU eR)))] (fun p hp=>by
   simp only[List.mem_cons,List.not_mem_nil,or_false]at hp;rcases hp with rfl|rfl|rfl
   ·exact up (Cy hf ts oi) 1
   ·exact KT hf
   ·exact k3) (by simp only[List.flatMap_cons,List.flatMap_nil,List.append_nil]) (by simp only[List.flatMap_cons,List.flatMap_nil,List.append_nil])
 exact lz (c:=[105,102]) pF (lu _ rfl rfl rfl rfl rfl rfl) [(bg cA [f,gZ],bg cA [f,gZ]),(bg bx [],bg bx []),(bg cF (fg f dh bV++(iH 0 f++bg cF (fg f dh cl++(dT 0 dL cl++dT 0 dU eR)))),bg cF (fg f dh bV++(iH (if b then 2 else 1) f++bg cF (fg f dh cl++(dT (if b then 2 else 1) dL cl++dT (if b then 2 else 1) dU eR)))))] (fun p hp=>by
  simp only[List.mem_cons,List.not_mem_nil,or_false]at hp;rcases hp with rfl|rfl|rfl
  ·exact up k1 3
  ·exact up k2 3
  ·exact k4) (by simp only[List.flatMap_cons,List.flatMap_nil,List.append_nil]) (by simp only[List.flatMap_cons,List.flatMap_nil,List.append_nil])
theorem KY{X:af}(hX:Sk X):Pr (n+7) b (jL 0 f X) (jL (if b then 2 else 1) f X):=by
 have up:∀{k:Nat} {F G:af},Pr (n+k) b F G→∀j,Pr (n+k+j) b F G:=fun h j=>⟨h.1,vZ j _ _ _ _ h.2⟩
 have k1:Pr (n+1) b (bg bG ([al,aq]++X)) (bg bG ([al,aq]++X)):=⟨fL Ce (iB (qQ oA).1 hX),Or.inr (Or.inl ⟨_,rfl,rfl⟩)⟩;have k2:Pr (n+2) b (bg eJ (bg bG ([al,aq]++X))) (bg eJ (bg bG ([al,aq]++X))):=lz (c:=[99,97,108,108]) Cc (lu _ rfl rfl rfl rfl rfl rfl) [(bg bG ([al,aq]++X),bg bG ([al,aq]++X))] (fun p hp=>by
  simp only[List.mem_cons,List.not_mem_nil,or_false]at hp;rcases hp with rfl;exact k1) (List.append_nil _) (List.append_nil _)
 have k3:Pr (n+3) b (bg fV (f::bg eJ (bg bG ([al,aq]++X)))) (bg fV (f::bg eJ (bg bG ([al,aq]++X)))):=lz (c:=[108,101,116]) Cg (lu _ rfl rfl rfl rfl rfl rfl) [([f],[f]),(bg eJ (bg bG ([al,aq]++X)),bg eJ (bg bG ([al,aq]++X)))] (fun p hp=>by
  simp only[List.mem_cons,List.not_mem_nil,or_false]at hp;rcases hp with rfl|rfl
  ·exact mY hf
  ·exact k2) (by simp only[List.flatMap_cons,List.flatMap_nil,List.append_nil,List.cons_append,List.nil_append]) (by simp only[List.flatMap_cons,List.flatMap_nil,List.append_nil,List.cons_append,List.nil_append])
 exact lz (c:=[100,111]) tq (lu _ rfl rfl rfl rfl rfl rfl) [(bg fV (f::bg eJ (bg bG ([al,aq]++X))),bg fV (f::bg eJ (bg bG ([al,aq]++X)))),(lG 0 f,lG (if b then 2 else 1) f)] (fun p hp=>by
  simp only[List.mem_cons,List.not_mem_nil,or_false]at hp;rcases hp with rfl|rfl
  ·exact up k3 3
  ·exact KX hf) (by simp only[List.flatMap_cons,List.flatMap_nil,List.append_nil]) (by simp only[List.flatMap_cons,List.flatMap_nil,List.append_nil])
end
section
variable {L:af} {i j e x q k:Int} {D:Int→Bool} {fr:Int→ByteArray}
theorem oU{α β:Type}(f g:α→List β):∀l:List α,(∀x∈l,f x=g x)→l.flatMap f=l.flatMap g
 |[],_=>rfl
 |x::l,h=>by
  rw[List.flatMap_cons,List.flatMap_cons,h x (List.mem_cons_self ..),oU f g l fun y hy=>h y (List.mem_cons_of_mem _ hy)]
theorem IE{h:ByteArray}{t:ByteArray}(hl:cJ h=some t):ae h [108,101,97,118,101]=true∨ae h [110,101,120,116]=true:=by
 unfold cJ at hl;cases h1:ae h [108,101,97,118,101]
 ·rw[h1]at hl;cases h2:ae h [110,101,120,116]
  ·rw[h2]at hl;cases hl
  ·exact Or.inr rfl
 ·exact Or.inl rfl
theorem Iw(h:dS L i=true):ae (aa L (i+1)) [119,104,105,108,101]=true∨ae (aa L (i+1)) [102,111,114]=true:=by
 unfold dS at h;rwa [Bool.or_eq_true]at h
variable (hDo:∀ i,D i=true→bU L i=true)
include hDo
theorem Du:∀n i,(bB (aa L i)∨fm L 0 i≠-1)→vF L D fr n 1 i=vF L D fr n 2 i
 |0,_,_=>rfl
 |n+1,i,h=>by
  cases ho:ae (aa L i) [40]
  ·rw[jo ho,jo ho]
  ·have hs:fm L 0 i≠-1:=h.resolve_left fun hp=>by rw[hp.1]at ho;cases ho
   have hD:D i=false:=by
    cases hc:D i
    ·rfl
    ·exact absurd (pA hs ho (eM (hDo i hc)).2 rfl) id
   have hb:ae (aa L (i+1)) [98,97,99,107]=false:=by
    cases hc:ae (aa L (i+1)) [98,97,99,107]
    ·rfl
    ·exact absurd (pA hs ho hc rfl) id
   have hl:cJ (aa L (i+1))=none:=by
    cases hc:cJ (aa L (i+1))with
    |none=>rfl
    |some t =>
     rcases IE hc with h1|h1
     ·exact absurd (pA hs ho h1 rfl) id
     ·exact absurd (pA hs ho h1 rfl) id
   have hlo:dS L i=false:=by
    cases hc:dS L i
    ·rfl
    ·rcases Iw hc with h1|h1
     ·exact absurd (pA hs ho h1 rfl) id
     ·exact absurd (pA hs ho h1 rfl) id
   rw[kV ho hD (Or.inr hb) (Or.inr hl),kV ho hD (Or.inr hb) (Or.inr hl)];cases hf:dt L i
   ·obtain⟨m,e,a,b,c,d,f,g,hk⟩:=At (Or.inl hs) ho hf;have e1:ep L 1 i=1:=by unfold ep;rw[hf,hlo];rfl
    have e2:ep L 2 i=2:=by unfold ep;rw[hf,hlo];rfl
    rw[e1,e2,ly a b (by have:=dH c;omega) (bP c)];congr 2;refine oU _ _ _ fun k hkm=>Du n k ?_
    rcases List.mem_cons.mp hkm with rfl|hkm
    ·exact Or.inl g
    ·rw[f]at hkm;obtain⟨w,h1,h2⟩:=hk k hkm;rcases h2 hs with rfl|rfl
     ·exact Or.inr h1.2.2
     ·exact Or.inl (dD (lv h1.2.2).2.1)
   ·have e1:ep L 1 i=0:=by unfold ep;rw[hf];rfl
    have e2:ep L 2 i=0:=by unfold ep;rw[hf];rfl
    rw[e1,e2]
omit hDo in
theorem vx{M:Bool→af→af→Prop}(f g:Int→af):∀m a,bd L m a e→0≤e→(∀k∈ar L m a,cS (f k)∧M (decide (ag L k=e)) (f k) (g k))→ju M m ((ar L m a).flatMap f) ((ar L m a).flatMap g)
 |0,_,_,_,_=>⟨rfl,rfl⟩
 |m+1,a,h,he,hk=>by
  have h1:=hk a (List.mem_cons_self ..);have h2:=bK m _ h.2 he;have hm:(m==0)=decide (ag L a=e):=by
   cases m with
   |zero=>rw[decide_eq_true (show ag L a=e from h.2)];rfl
   |succ m=>rw[decide_eq_false (by omega)];rfl
  refine⟨f a,_,g a,_,rfl,rfl,h1.1,by rw[hm];exact h1.2,vx f g m _ h.2 he fun k hkm=>hk k (List.mem_cons_of_mem _ hkm)⟩
variable (hp:aR L=true) (hG:∀ s∈L,Gs s) (hfr:∀ i,bB (fr i)∧Gs (fr i))
include hp hG hfr
theorem rK:∀n i b,(ag L i-i).toNat≤n→0≤ag L i→Kk L i→MO (n+8) b (vF L D fr n 0 i) (vF L D fr n (if b then 2 else 1) i)
 |0,i,b,hn,h0,_=>by have:=cZ h0;omega
 |n+1,i,b,hn,h0,hk=>by
  have hu:=cZ h0;have hm0:(if b=true then 2 else 1:Nat)≠0:=by cases b<;>decide
  cases ho:ae (aa L i) [40]
  ·rw[jo ho,jo ho];exact Or.inl ⟨_,rfl,rfl,ho⟩
  ·obtain⟨c,e,hc,he0,hel,he,hit⟩:=iz ho h0;have hce:=bK c _ hc he0;have hplc:=ly hc he0 (by omega) (bP he);have hin:=fQ c _ hc he0;have he41:ag L e=-1:=eo (Or.inr (Or.inr he));have hop:al=aa L i:=(aZ ho).symm;cases hD:D i
   ·have h0f:=kV (fr:=fr) (n:=n) (m:=0) ho hD (Or.inl rfl) (Or.inl (by decide));have hmd:ep L 0 i=0:=rfl;rw[h0f,hmd,hplc];cases hf:dt L i
    ·obtain⟨c',rfl,f1,f2,f3⟩:=vD hk ho hf hc he0 hit he;have hcn:0<n:=by
      have:=hin (i+1) (List.mem_cons_self ..);omega
     obtain⟨n',rfl⟩:∃n',n=n'+1:=⟨n-1,by omega⟩;have hP:ar L (c'+1) (i+1)=(i+1)::ar L c' (i+2):=by
      show(i+1)::ar L c' (ag L (i+1))=_;rw[f1]
     by_cases hb:ae (aa L (i+1)) [98,97,99,107]=true
     ·obtain⟨b1,b2,b3,b4,b5⟩:=vC hk ho hb;have hu2:=cZ b1;rw[tU ho hD hm0 hb,hP];have hc1:bd L 1 (i+2) e:=⟨b1,by show ag L (i+2)=e;omega⟩;have hcc:bd L c' (i+2) e:=by have:=hc.2;rwa [f1]at this
      obtain⟨rfl,_⟩:=jh c' 1 _ hcc hc1 he41 he41;obtain⟨s1,s2,_⟩:=oD hp hG hDo hfr (n'+1) 0 (i+2) (by omega) b1 (Or.inl rfl);refine Or.inr (Or.inr (Or.inl ⟨vF L D fr (n'+1) 0 (i+2),?_,s1,rfl⟩));rw[List.flatMap_cons,jo f2.1];show al::([aa L (i+1)]++(vF L D fr (n'+1) 0 (i+2)++[])++[aq])=_;rw[aZ hb,List.append_nil];rfl
     ·have hb':ae (aa L (i+1)) [98,97,99,107]=false:=by
       cases hq:ae (aa L (i+1)) [98,97,99,107]
       ·rfl
       ·exact absurd hq hb
      cases hl:cJ (aa L (i+1))with
      |some t =>
       obtain⟨b1,b2,b3⟩:=AV hk ho (by rw[hl];rfl);have hc0:bd L 0 (i+2) e:=by show i+2=e;omega
       have hcc:bd L c' (i+2) e:=by have:=hc.2;rwa [f1]at this
       obtain⟨rfl,_⟩:=jh c' 0 _ hcc hc0 he41 he41;have eF:al::((ar L (0+1) (i+1)).flatMap (vF L D fr (n'+1) 0)++[aq])=[al,aa L (i+1),aq]:=by
        rw[hP,List.flatMap_cons,jo f2.1];rfl
       rw[eF];refine Or.inr (Or.inr (Or.inr (Or.inl ⟨aa L (i+1),t,rfl,hl,?_⟩)));cases b
       ·exact tV ho hD hl
       ·show vF L D fr (n'+1+1) 2 i=[al,aa L (i+1),aq];rw[kV ho hD (Or.inr hb') (Or.inl (by decide)),hplc,hP,List.flatMap_cons,jo f2.1];rfl
      |none =>
       rw[kV ho hD (Or.inr hb') (Or.inr hl),hplc];refine Or.inr (Or.inr (Or.inr (Or.inr ⟨aa L (i+1),c'+1,(ar L c' (i+2)).flatMap (vF L D fr (n'+1) 0),(ar L (c'+1) (i+1)).flatMap (vF L D fr (n'+1) (ep L (if b=true then 2 else 1) i)),?_,rfl,f2,hf,hb',hl,?_⟩)))
       ·rw[hP,List.flatMap_cons,jo f2.1];rfl
       ·have hgo:ju (fun last X Y=>MO (n'+1+8) (b||fj (aa L (i+1))) X Y∧(last=false→MO (n'+1+8) b X Y)) (c'+1) ((ar L (c'+1) (i+1)).flatMap (vF L D fr (n'+1) 0)) ((ar L (c'+1) (i+1)).flatMap (vF L D fr (n'+1) (ep L (if b=true then 2 else 1) i))):=by
         refine vx _ _ _ _ hc he0 fun k hkm=>?_
         obtain⟨d1,d2,d3,d4⟩:=hin k hkm;have hik:=(oD hp hG hDo hfr (n'+1) 0 k (by omega) d3 (Or.inl rfl)).1;refine⟨hik,?_⟩;cases hlo:dS L i
         ·have e1:ep L (if b=true then 2 else 1) i=(if b=true then 2 else 1):=by
           unfold ep;rw[hf,hlo,if_neg (by simp[hm0])];rfl
          have e2:fj (aa L (i+1))=false:=hlo
          rw[e1,e2,Bool.or_false]
          have:=rK (n'+1) k b (by omega) d3 (f3 k hkm)
          exact⟨this,fun _=>this⟩
         ·have e1:ep L (if b=true then 2 else 1) i=2:=by
           unfold ep;rw[hf,hlo,if_neg (by simp[hm0])];rfl
          have e2:fj (aa L (i+1))=true:=hlo
          rw[e1,e2,Bool.or_true]
          refine⟨rK (n'+1) k true (by omega) d3 (f3 k hkm),fun hlast=>?_⟩
          have hne:ag L k≠e:=of_decide_eq_false hlast
          cases b
          ·have h3:=rK (n'+1) k false (by omega) d3 (f3 k hkm);have hcalm:=Cs hp i (c'+1) e ho hlo hc he0 hit k hkm hne;rw[←Du hDo (n'+1) k (hcalm.imp (fun h=>h.2.2) id)];exact h3
          ·exact rK (n'+1) k true (by omega) d3 (f3 k hkm)
        rw[hP,List.flatMap_cons,jo f2.1]at hgo
        rw[hP]
        exact hgo
    ·have hb:ae (aa L (i+1)) [98,97,99,107]=false:=aQ hf (by decide);have hl:cJ (aa L (i+1))=none:=by
      unfold cJ;rw[aQ hf (by decide),aQ hf (by decide)];rfl
     rw[kV ho hD (Or.inr hb) (Or.inr hl),hplc];have e1:ep L (if b=true then 2 else 1) i=0:=by unfold ep;rw[hf];simp
     rw[e1];obtain⟨h0',h1'⟩:=bF ho;have hgk:=(wJ hp i h0' h1' ho).1;have hf':ae (aa L (i+1)) [102,110]=true:=hf;have f1:ag L (i+1)=i+2:=by
      rw[gw (by omega) hgk ⟨aQ hf' (by decide),aQ hf' (by decide)⟩];omega
     cases c with
     |zero =>
      have hz:i+1=e:=hc;rw[←hz,aQ hf' (by decide)]at he;cases he
     |succ c =>
      have hn1:0<n:=by omega
      obtain⟨n',rfl⟩:∃n',n=n'+1:=⟨n-1,by omega⟩;refine Or.inr (Or.inl ⟨(ar L c (ag L (i+1))).flatMap (vF L D fr (n'+1) 0)++[aq],?_,rfl⟩);show al::((vF L D fr (n'+1) 0 (i+1)++(ar L c (ag L (i+1))).flatMap (vF L D fr (n'+1) 0))++[aq])=_;rw[jo (aQ hf' (by decide)),aZ hf'];rfl
   ·rw[pQ ho hD,pQ ho hD];have hd:=hDo i hD;have hv:aH L i:=Or.inr (mg hp (mA (eM hd).2 (by decide)));obtain⟨k,e',q1d,q2,q3⟩:=hv.OK ho (eM hd).2;have hse:=dH q2;obtain⟨q1,hdl⟩:=eK k _ q1d;rw[ef q1 hse.1 (by omega) (bP q2)];obtain⟨s1,s2,_⟩:=lg (vF L D fr n 1) k (i+2) (iv k _ q1) hse.1 fun p hpm=>by
     obtain⟨d1,d2,d3,d4⟩:=jz k _ q1 hse.1 p hpm;exact oD hp hG hDo hfr n 1 p (by omega) (by have:=d3.ends;omega) (Or.inr (mH d3))
    have:=(KY (n:=n+2) (b:=b) (hfr i).1 s1).2;rwa [show n+2+7=n+1+8 by omega]at this
end
end Go.Proofs.YtdojfommmpnbgaaGreatDoor
