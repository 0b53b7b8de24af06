import Derived.Test.YtdojfommmpnbgaaGreatDoorKBE
import Derived.Test.YtdojfommmpnbgaaGreatDoorKBH
import Derived.Test.YtdojfommmpnbgaaGreatDoorKBI
namespace Go.Proofs.YtdojfommmpnbgaaGreatDoor
open Go.RowKit
def fV:ByteArray:=⟨#[108,101,116]⟩
def eJ:ByteArray:=⟨#[99,97,108,108]⟩
def cF:ByteArray:=⟨#[105,102]⟩
def cA:ByteArray:=⟨#[61]⟩
def gZ:ByteArray:=⟨#[110,111,110,101]⟩
def dY:ByteArray:=⟨#[103,101,116]⟩
def bg(h:ByteArray)(B:af):af:=al::(h::B++[aq])
def jC(f n:ByteArray):af:=bg dY [f,n]
def fg(f n m:ByteArray):af:=bg cA (jC f n++[m])
def iH(m:Nat)(f:ByteArray):af:=if m=0 then bg bm (jC f bV)else bg bm (bg cW (bV::jC f bV))
def dT(m:Nat)(h t:ByteArray):af:=if m=1 then bg bm (bg cW [t])else bg h []
def lG(m:Nat)(f:ByteArray):af:=bg cF (bg cA [f,gZ]++(bg bx []++bg cF (fg f dh bV++(iH m f++bg cF (fg f dh cl++(dT m dL cl++dT m dU eR))))))
def jL(m:Nat)(f:ByteArray)(X:af):af:=bg bx (bg fV (f::bg eJ (bg bG ([al,aq]++X)))++lG m f)
def ep(L:af)(m:Nat)(i:Int):Nat:=if m=0∨dt L i=true then 0 else if dS L i=true then 2 else m
def vF(L:af)(D:Int→Bool)(fr:Int→ByteArray):Nat→Nat→Int→af
 |0,_,_=>[]
 |n+1,m,i =>
  if ae (aa L i) [40]=false then [aa L i]
  else if D i=true then jL m (fr i) ((aT L (i+2)).flatMap (vF L D fr n 1))
  else if m≠0∧ae (aa L (i+1)) [98,97,99,107]=true then al::bm::al::cW::bV::(vF L D fr n 0 (i+2)++[aq,aq])
  else if m=1∧(cJ (aa L (i+1))).isSome then [al,bm,al,cW,(cJ (aa L (i+1))).getD cl,aq,aq]
  else al::((aT L (i+1)).flatMap (vF L D fr n (ep L m i))++[aq])
theorem fL{h:ByteArray}{B:af}(hp:bB h)(hB:Sk B):cS (bg h B):=qQ (iB (qP hp).1 hB)
theorem lE{x:ByteArray}(h:bB x):Sk [x]:=(qP h).1
theorem ja(c:List UInt8)(h1:(c==[40])=false)(h2:(c==[41])=false):bB ⟨c.toArray⟩:=⟨aQ (kr c) h1,aQ (kr c) h2⟩
theorem ts:bB dh:=ja [48] rfl rfl
theorem oi:bB bV:=ja [49] rfl rfl
theorem rj:bB cl:=ja [50] rfl rfl
theorem Ci:bB eR:=ja [51] rfl rfl
theorem ri:bB bm:=ja [98,97,99,107] rfl rfl
theorem Ch:bB dL:=ja [108,101,97,118,101] rfl rfl
theorem Ck:bB dU:=ja [110,101,120,116] rfl rfl
theorem tu:bB cW:=ja [116,104,105,110,103] rfl rfl
theorem Cg:bB fV:=ja [108,101,116] rfl rfl
theorem Cc:bB eJ:=ja [99,97,108,108] rfl rfl
theorem pF:bB cF:=ja [105,102] rfl rfl
theorem tr:bB cA:=ja [61] rfl rfl
theorem Cj:bB gZ:=ja [110,111,110,101] rfl rfl
theorem Cf:bB dY:=ja [103,101,116] rfl rfl
theorem tq:bB bx:=ja [100,111] rfl rfl
theorem Ce:bB bG:=ja [102,110] rfl rfl
section
variable {f:ByteArray} (hf:bB f)
include hf
theorem tH{n:ByteArray}(hn:bB n):cS (jC f n):=fL Cf (iB (lE hf) (lE hn))
theorem C5{n m:ByteArray}(hn:bB n)(hm:bB m):cS (fg f n m):=fL tr (iB (tH hf hn).1 (lE hm))
theorem C4(m:Nat):cS (iH m f):=by
 unfold iH;split
 ·exact fL ri (tH hf oi).1
 ·exact fL ri (fL tu (iB (lE oi) (tH hf oi).1)).1
omit hf in
theorem C6(m:Nat){h t:ByteArray}(hh:bB h)(ht:bB t):cS (dT m h t):=by
 unfold dT;split
 ·exact fL ri (fL tu (lE ht)).1
 ·exact fL hh oA
theorem Mm(m:Nat):cS (lG m f):=fL pF (iB (fL tr (iB (lE hf) (lE Cj))).1 (iB (fL tq oA).1 (fL pF (iB (C5 hf ts oi).1 (iB (C4 hf m).1 (fL pF (iB (C5 hf ts rj).1 (iB (C6 m Ch rj).1 (C6 m Ck Ci).1))).1))).1))
theorem Ml{X:af}(hX:Sk X):cS (bg fV (f::bg eJ (bg bG ([al,aq]++X)))):=fL Cg (iB (lE hf) (fL Cc (fL Ce (iB (qQ oA).1 hX)).1).1)
theorem Mn(m:Nat){X:af}(hX:Sk X):cS (jL m f X):=fL tq (iB (Ml hf hX).1 (Mm hf m).1)
end
theorem Ou(m:Nat)(f:ByteArray)(X:af):(jL m f X).length≤X.length+80:=by
 unfold jL lG iH dT fg jC bg;split<;>split<;>simp<;>omega
def Gs(s:ByteArray):Prop:=bT s=true∧s.size≤maxLen
def lY:af:=[al,aq,bm,dL,dU,cW,dh,bV,cl,eR,fV,eJ,cF,cA,gZ,dY,bx,bG]
theorem pr:∀s∈lY,Gs s:=by
 have h:∀s∈lY,bT s=true∧s.size≤100:=by decide +kernel
 exact fun s hs=>⟨(h s hs).1,by have:=(h s hs).2;unfold maxLen;omega⟩
theorem Oo{m:Nat}{f:ByteArray}{X:af}(hf:Gs f)(hX:∀s∈X,Gs s):∀s∈jL m f X,Gs s:=fun s hs=>by
 have key:s=f∨s∈lY∨s∈X:=by
  unfold jL lG iH dT fg jC bg at hs;unfold lY;split at hs<;>split at hs<;>(simp only[List.mem_cons,List.mem_append,List.not_mem_nil,or_false,List.cons_append,List.nil_append]at hs ⊢;grind)
 rcases key with rfl|h|h
 ·exact hf
 ·exact pr s h
 ·exact hX s h
def Kk(L:af)(i:Int):Prop:=(∃w,Kd L w i)∨bB (aa L i)
section
variable {L:af} {i j e x q k:Int}
theorem mH(h:aH L i):Kk L i:=by
 rcases h with h|h
 ·exact Or.inl ⟨1,by decide,by decide,h⟩
 ·exact Or.inl ⟨3,by decide,by decide,h⟩
theorem vE(h:Kk L i)(ho:ae (aa L i) [40]=true):aH L i∨aJ L 5 i≠-1:=by
 rcases h with⟨w,h1,h2,h3⟩|h
 ·by_cases h4:w≤3
  ·exact Or.inl (jU (L:=L) (i:=i) (w:=w) (by omega) h3).1
  ·by_cases h5:w=4
   ·subst h5;rw[(dD (lv h3).2.1).1]at ho;cases ho
   ·have:w=5:=by omega
    subst this;exact Or.inr h3
 ·rw[h.1]at ho;cases ho
theorem vD{m:Nat}(h:Kk L i)(ho:ae (aa L i) [40]=true)(hf:dt L i=false)(hc:bd L m (i+1) e)(he0:0≤e)(hit:ag L i=e+1)(he:ae (aa L e) [41]=true):∃m',m=m'+1∧ag L (i+1)=i+2∧bB (aa L (i+1))∧∀k∈ar L m (i+1),Kk L k:=by
 have he41:ag L e=-1:=eo (Or.inr (Or.inr he));rcases vE h ho with h|h
 ·obtain⟨m',e',a,b,c,d,f,g,hk⟩:=At h ho hf;have e2:ag L e'=-1:=eo (Or.inr (Or.inr c));obtain⟨rfl,_⟩:=jh m (m'+1) _ hc a he41 e2;refine⟨m',rfl,f,g,fun k hk'=>?_⟩;rcases List.mem_cons.mp hk' with rfl|hk'
  ·exact Or.inr g
  ·rw[f]at hk';obtain⟨w,h1,_⟩:=hk k hk';exact Or.inl ⟨w,h1⟩
 ·obtain⟨_,e',a,b,c,d,f,g⟩:=vz h;have hie:ag L (i+1)=i+2:=by
   rw[gw (by have:=bF ho;omega) (by omega) (dD (g (i+1) (Int.le_refl _) (by omega)))];omega
  have hee:e=e':=by omega
  subst hee;cases m with
  |zero =>
   have:i+1=e:=hc;omega
  |succ m =>
   refine⟨m,rfl,hie,dD (g (i+1) (Int.le_refl _) (by omega)),fun k hk=>?_⟩;obtain⟨d1,d2,d3,d4⟩:=fQ (m+1) _ hc he0 k hk;exact Or.inr (dD (g k d1 d2))
theorem pA{c:List UInt8}(h:fm L 0 i≠-1)(ho:ae (aa L i) [40]=true)(hc:ae (aa L (i+1)) c=true)(hn:cP c 1=none):False:=by
 have he:=mB (L:=L) (i:=i) 1 (by decide) ho;rw[aZ hc,bE,hn]at he;exact h he
theorem zO{c:List UInt8}(h:aJ L 5 i≠-1)(hc:ae (aa L (i+1)) c=true)(hn:aV ⟨c.toArray⟩=false):False:=by
 obtain⟨_,e',_,_,a,_,_,g⟩:=vz h;have:=g (i+1) (Int.le_refl _) (by omega);rw[aZ hc,hn]at this;cases this
theorem vC(h:Kk L i)(ho:ae (aa L i) [40]=true)(hc:ae (aa L (i+1)) [98,97,99,107]=true):0≤ag L (i+2)∧ag L i=ag L (i+2)+1∧Kk L (i+2)∧ae (aa L (ag L (i+2))) [41]=true∧ag L (i+1)=i+2:=by
 rcases vE h ho with h|h
 ·have hw:=h.word ho _ ([1],none) hc (Or.inr rfl) (Or.inl rfl);obtain⟨c1,c2,c3,c4⟩:=gK hw.1;have e1:eH L none (bW L [1] (i+2))=aJ L 1 (i+2):=rfl;simp only at c1 c2 c3 c4;rw[e1]at c1 c2 c3 c4;have hs:=jU (L:=L) (i:=i+2) (w:=1) (Or.inl rfl) (by omega);rw[←hs.2]at c1 c2 c3 c4;exact⟨c2,by rw[hw.2,c1],mH hs.1,c4,(h.parts ho).1⟩
 ·exact absurd (zO h hc (by decide +kernel)) id
theorem AV(h:Kk L i)(ho:ae (aa L i) [40]=true)(hc:(cJ (aa L (i+1))).isSome=true):ag L i=i+3∧ae (aa L (i+2)) [41]=true∧ag L (i+1)=i+2:=by
 have key:∀c:List UInt8,ae (aa L (i+1)) c=true→(cP c 1).map (fun g=>(g.2.2.1,g.2.2.2))=some (([],none):List Nat × Option Nat)∨cP c 1=none→(cP c 3).map (fun g=>(g.2.2.1,g.2.2.2))=some (([],none):List Nat × Option Nat)∨cP c 3=none→aV ⟨c.toArray⟩=false→ag L i=i+3∧ae (aa L (i+2)) [41]=true∧ag L (i+1)=i+2:=fun c hc h1 h3 hn=>by
  rcases vE h ho with h|h
  ·have hw:=h.word ho _ ([],none) hc h1 h3;obtain⟨c1,c2,c3,c4⟩:=gK hw.1;have e1:eH L none (bW L [] (i+2))=i+2:=rfl;simp only at c1 c2 c3 c4;rw[e1]at c1 c4;exact⟨by rw[hw.2,c1];omega,c4,(h.parts ho).1⟩
  ·exact absurd (zO h hc hn) id
 unfold cJ at hc;cases h1:ae (aa L (i+1)) [108,101,97,118,101]
 ·rw[h1]at hc;cases h2:ae (aa L (i+1)) [110,101,120,116]
  ·rw[h2]at hc;cases hc
  ·exact key _ h2 (Or.inr rfl) (Or.inl rfl) (by decide +kernel)
 ·exact key _ h1 (Or.inr rfl) (Or.inl rfl) (by decide +kernel)
variable {D:Int→Bool} {fr:Int→ByteArray}
theorem jo{n m:Nat}(h:ae (aa L i) [40]=false):vF L D fr (n+1) m i=[aa L i]:=by
 unfold vF;rw[if_pos h]
theorem pQ{n m:Nat}(ho:ae (aa L i) [40]=true)(hD:D i=true):vF L D fr (n+1) m i=jL m (fr i) ((aT L (i+2)).flatMap (vF L D fr n 1)):=by
 show(if ae (aa L i) [40]=false then _ else _)=_;rw[if_neg (by rw[ho];decide),if_pos hD]
theorem tU{n m:Nat}(ho:ae (aa L i) [40]=true)(hD:D i=false)(hm:m≠0)(hc:ae (aa L (i+1)) [98,97,99,107]=true):vF L D fr (n+1) m i=al::bm::al::cW::bV::(vF L D fr n 0 (i+2)++[aq,aq]):=by
 show(if ae (aa L i) [40]=false then _ else _)=_;rw[if_neg (by rw[ho];decide),if_neg (by rw[hD];decide),if_pos ⟨hm,hc⟩]
theorem tV{n:Nat}{t:ByteArray}(ho:ae (aa L i) [40]=true)(hD:D i=false)(hc:cJ (aa L (i+1))=some t):vF L D fr (n+1) 1 i=[al,bm,al,cW,t,aq,aq]:=by
 show(if ae (aa L i) [40]=false then _ else _)=_;rw[if_neg (by rw[ho];decide),if_neg (by rw[hD];decide),if_neg (fun hh=>by rw[(s5 hc).2.2.2.1]at hh;cases hh.2),if_pos ⟨rfl,by rw[hc];rfl⟩,hc];rfl
theorem kV{n m:Nat}(ho:ae (aa L i) [40]=true)(hD:D i=false)(h1:m=0∨ae (aa L (i+1)) [98,97,99,107]=false)(h2:m≠1∨cJ (aa L (i+1))=none):vF L D fr (n+1) m i=al::((aT L (i+1)).flatMap (vF L D fr n (ep L m i))++[aq]):=by
 show(if ae (aa L i) [40]=false then _ else _)=_;rw[if_neg (by rw[ho];decide),if_neg (by rw[hD];decide),if_neg,if_neg]
 ·rintro⟨a,b⟩;rcases h2 with h2|h2
  ·exact h2 a
  ·rw[h2]at b;cases b
 ·rintro⟨a,b⟩;rcases h1 with h1|h1
  ·exact a h1
  ·rw[h1]at b;cases b
theorem lg(f:Int→af):∀m a,bd L m a e→0≤e→(∀k∈ar L m a,cS (f k)∧(f k).length≤64*(ag L k-k).toNat∧∀s∈f k,Gs s)→Sk ((ar L m a).flatMap f)∧((ar L m a).flatMap f).length≤64*(e-a).toNat∧∀s∈(ar L m a).flatMap f,Gs s
 |0,a,_,_,_=>⟨oA,Nat.zero_le _,fun s hs=>by cases hs⟩
 |m+1,a,h,he,hk=>by
  have h1:=cZ h.1;have h2:=bK m _ h.2 he;have h3:=hk a (List.mem_cons_self ..);obtain⟨i1,i2,i3⟩:=lg f m _ h.2 he fun k hkm=>hk k (List.mem_cons_of_mem _ hkm)
  have e1:(ar L (m+1) a).flatMap f=f a++(ar L m (ag L a)).flatMap f:=rfl;rw[e1,List.length_append];exact⟨iB h3.1.1 i1,by omega,fun s hs=>(List.mem_append.mp hs).elim (h3.2.2 s) (i3 s)⟩
variable (hp:aR L=true) (hG:∀ s∈L,Gs s) (hDo:∀ i,D i=true→bU L i=true) (hfr:∀ i,bB (fr i)∧Gs (fr i))
include hp hG hDo hfr
theorem oD:∀n m i,(ag L i-i).toNat≤n→0≤ag L i→(m=0∨Kk L i)→cS (vF L D fr n m i)∧(vF L D fr n m i).length≤64*(ag L i-i).toNat∧∀s∈vF L D fr n m i,Gs s
 |0,m,i,hn,h0,_=>by have:=cZ h0;omega
 |n+1,m,i,hn,h0,hk=>by
  have hu:=cZ h0;have hgs:Gs (aa L i):=by
   rw[eT hu.1 (by omega)];exact hG _ (List.getElem_mem _)
  cases ho:ae (aa L i) [40]
  ·rw[jo ho];exact⟨qP ⟨ho,l7 h0⟩,by show 1≤_;omega,fun s hs=>by rw[List.mem_singleton]at hs;rw[hs];exact hgs⟩
  ·cases hD:D i
   ·obtain⟨c,e,hc,he0,hel,he,hit⟩:=iz ho h0;have hce:=bK c _ hc he0;have hform:vF L D fr (n+1) m i=al::((aT L (i+1)).flatMap (vF L D fr n (ep L m i))++[aq])→cS (vF L D fr (n+1) m i)∧(vF L D fr (n+1) m i).length≤64*(ag L i-i).toNat∧∀s∈vF L D fr (n+1) m i,Gs s:=fun hv=>by
     rw[hv,ly hc he0 (by omega) (bP he)];obtain⟨s1,s2,s3⟩:=lg (vF L D fr n (ep L m i)) c (i+1) hc he0 fun k hkm=>by
      obtain⟨d1,d2,d3,d4⟩:=fQ c _ hc he0 k hkm;refine oD n _ k (by omega) d3 ?_;by_cases hz:ep L m i=0
      ·exact Or.inl hz
      ·right;unfold ep at hz;split at hz
       ·exact absurd rfl hz
       ·rename_i hz2;obtain⟨_,_,_,_,hh⟩:=vD (hk.resolve_left fun h=>hz2 (Or.inl h)) ho (by cases hq:dt L i;rfl;exact absurd (Or.inr hq) hz2) hc he0 hit he;exact hh k hkm
     refine⟨qQ s1,by simp only[List.length_cons,List.length_append,List.length_nil];omega,fun s hs=>?_⟩;rcases List.mem_cons.mp hs with rfl|hs
     ·exact pr _ (by simp[lY])
     ·rcases List.mem_append.mp hs with hs|hs
      ·exact s3 s hs
      ·rw[List.mem_singleton]at hs;rw[hs];exact pr _ (by simp[lY])
    by_cases hb:m≠0∧ae (aa L (i+1)) [98,97,99,107]=true
    ·rw[tU ho hD hb.1 hb.2];obtain⟨b1,b2,b3,b4,b5⟩:=vC (hk.resolve_left hb.1) ho hb.2;have hu2:=cZ b1;obtain⟨s1,s2,s3⟩:=oD n 0 (i+2) (by omega) b1 (Or.inl rfl);have hF:=fL ri (fL tu (iB (lE oi) s1.1)).1;refine⟨by simpa[bg]using hF,by simp only[List.length_cons,List.length_append,List.length_nil];omega,fun s hs=>?_⟩;simp only[List.mem_cons,List.mem_append,List.not_mem_nil,or_false]at hs;rcases hs with rfl|rfl|rfl|rfl|rfl|hs|rfl|rfl
     all_goals first|exact s3 s hs|exact pr _ (by simp[lY])
    ·have hb':m=0∨ae (aa L (i+1)) [98,97,99,107]=false:=by
      by_cases hz:m=0
      ·exact Or.inl hz
      ·right;cases hq:ae (aa L (i+1)) [98,97,99,107]
       ·rfl
       ·exact absurd ⟨hz,hq⟩ hb
     by_cases hl:m=1∧∃t,cJ (aa L (i+1))=some t
     ·obtain⟨rfl,t,hl⟩:=hl;obtain⟨b1,b2,b3⟩:=AV (hk.resolve_left (by decide)) ho (by rw[hl];rfl);rw[tV ho hD hl];have ht:t=cl∨t=eR:=by
       unfold cJ at hl;split at hl
       ·injection hl with hl;exact Or.inl hl.symm
       ·split at hl
        ·injection hl with hl;exact Or.inr hl.symm
        ·cases hl
      have hlit:∀t∈[cl,eR],bB t:=fun t ht=>by
       simp only[List.mem_cons,List.not_mem_nil,or_false]at ht;rcases ht with rfl|rfl
       ·exact rj
       ·exact Ci
      refine⟨fL ri (fL tu (lE (hlit t (by simpa using ht)))).1,by show 7≤_;omega,fun s hs=>pr s ?_⟩;simp only[List.mem_cons,List.not_mem_nil,or_false]at hs;rcases ht with rfl|rfl
      all_goals rcases hs with rfl|rfl|rfl|rfl|rfl|rfl|rfl<;>simp[lY]
     ·refine hform (kV ho hD hb' ?_);by_cases hz:m=1
      ·right;cases hq:cJ (aa L (i+1))with
       |none=>rfl
       |some t=>exact absurd ⟨hz,t,hq⟩ hl
      ·exact Or.inl hz
   ·have hd:=hDo i hD;have hv:aH L i:=Or.inr (mg hp (mA (eM hd).2 (by decide)));obtain⟨k,e,q1d,q2,q3⟩:=hv.OK ho (eM hd).2;have hse:=dH q2;obtain⟨q1,hdl⟩:=eK k _ q1d;have hce:=eX k _ q1 hse.1;rw[pQ ho hD,ef q1 hse.1 (by omega) (bP q2)];obtain⟨s1,s2,s3⟩:=lg (vF L D fr n 1) k (i+2) (iv k _ q1) hse.1 fun p hpm=>by
     obtain⟨d1,d2,d3,d4⟩:=jz k _ q1 hse.1 p hpm;exact oD n 1 p (by omega) (by have:=d3.ends;omega) (Or.inr (mH d3))
    have hl:=Ou m (fr i) ((ar L k (i+2)).flatMap (vF L D fr n 1));exact⟨Mn (hfr i).1 m s1,by omega,Oo (hfr i).2 s3⟩
end
end Go.Proofs.YtdojfommmpnbgaaGreatDoor
namespace Go.Proofs.YtdojfommmpnbgaaGreatDoor
open Go.RowKit Go.Proofs.Tryz
theorem pK(L:af)(a b:List (Int × Int × Bool))(q:Bool):fK L (a++b) q=fK L a q++fK L b q:=by
 unfold fK;rw[List.filter_append,List.map_append]
structure Rl (L:af) (o:Q.Ot) (p:Ot):Prop where
 fr:fK L o.us false=p.fr
 sc:fK L o.us true=p.sc
 bad:o.bad=p.bad
structure Kr (L:af) (K:Q.Kn) (k:Kn):Prop where
 nm:k.nm=K.E.flatMap fun Z=>Z.1.map (aa L)
 hd:k.hd=K.E.flatMap fun Z=>Z.2.map (aa L)
 lp:k.lp=K.lp
 ps:∀Z∈K.E,(∀p∈Z.1,0≤p)∧∀p∈Z.2,0≤p
section
variable {L:af}
theorem Rl.add{a b:Q.Ot}{p q:Ot}(h:Rl L a p)(k:Rl L b q):Rl L (a.add b) (p.add q):=by
 refine⟨?_,?_,?_⟩
 ·show fK L (a.us++b.us) false=p.fr++q.fr;rw[pK,h.fr,k.fr]
 ·show fK L (a.us++b.us) true=p.sc++q.sc;rw[pK,h.sc,k.sc]
 ·show(a.bad||b.bad)=(p.bad||q.bad);rw[h.bad,k.bad]
theorem wR{b b':Bool}(h:b=b'):Rl L (Q.cB b) ⟨[],[],b'⟩:=⟨rfl,rfl,h⟩
theorem rv:Rl L Q.Ot.none Ot.none:=⟨rfl,rfl,rfl⟩
theorem jJ{c:Prop}[Decidable c]{a b:Q.Ot}{p q:Ot}(h:c→Rl L a p)(k:¬c→Rl L b q):Rl L (if c then a else b) (if c then p else q):=by
 split
 ·exact h ‹_›
 ·exact k ‹_›
theorem tE{f:Int→Q.Ot}{g:Int→Ot}:∀ps:List Int,(∀p∈ps,Rl L (f p) (g p))→Rl L (Q.aW f ps) (aW g ps)
 |[],_=>rv
 |p::ps,h=>(h p (List.mem_cons_self ..)).add (tE ps fun x hx=>h x (List.mem_cons_of_mem _ hx))
theorem CR{f:Int→Q.Ot}{g:Int→Ot}:∀(v:Bool) (ps:List Int),(∀p∈ps,Rl L (f p) (g p))→Rl L ((Q.cB (Q.gO L v ps)).add (Q.aW f ps)) (iQ L g v ps)
 |_,[],_=>⟨rfl,rfl,rfl⟩
 |v,p::ps,h=>by
  have h1:=h p (List.mem_cons_self ..);have h2:=CR false ps fun x hx=>h x (List.mem_cons_of_mem _ hx)
  refine⟨?_,?_,?_⟩
  ·show fK L ((f p).us++(Q.aW f ps).us) false=(g p).fr++(iQ L g false ps).fr;rw[pK,h1.fr,←h2.fr];rfl
  ·show fK L ((f p).us++(Q.aW f ps).us) true=(g p).sc++(iQ L g false ps).sc;rw[pK,h1.sc,←h2.sc];rfl
  ·show(((ae (aa L (p+1)) [118,97,114,115]&&!v)||Q.gO L false ps)||((f p).bad||(Q.aW f ps).bad))=((ae (aa L (p+1)) [118,97,114,115]&&!v)||((g p).bad||(iQ L g false ps).bad));rw[←h2.bad,h1.bad];show _=(_||(_||(Q.gO L false ps||(Q.aW f ps).bad)));cases (ae (aa L (p+1)) [118,97,114,115]&&!v)<;>cases Q.gO L false ps<;>cases (g p).bad<;>cases (Q.aW f ps).bad<;>rfl
theorem Kr.block{K:Q.Kn}{k:Kn}(h:Kr L K k){X Y:List Int}{x y:af}(hx:X.map (aa L)=x∧∀p∈X,0≤p)(hy:Y.map (aa L)=y∧∀p∈Y,0≤p):Kr L (Q.oK K X Y) (kD (cz k x) y):=by
 refine⟨?_,?_,h.lp,fun Z hZ=>?_⟩
 ·show k.nm++x=(K.E++[(X,Y)]).flatMap _;rw[List.flatMap_append,h.nm,←hx.1];simp
 ·show k.hd++y=(K.E++[(X,Y)]).flatMap _;rw[List.flatMap_append,h.hd,←hy.1];simp
 ·rcases List.mem_append.mp hZ with hZ|hZ
  ·exact h.ps Z hZ
  ·rw[List.mem_singleton]at hZ;subst hZ;exact⟨hx.2,hy.2⟩
theorem Kr.names{K:Q.Kn}{k:Kn}(h:Kr L K k){X:List Int}{x:af}(hx:X.map (aa L)=x∧∀p∈X,0≤p):Kr L (Q.cz K X) (cz k x):=by
 have h1:=h.block hx (Y:=[]) (y:=[]) ⟨rfl,fun p hp=>by cases hp⟩;exact⟨h1.nm,(List.append_nil _).symm.trans h1.hd,h1.lp,h1.ps⟩
theorem Kr.loop{K:Q.Kn}{k:Kn}(h:Kr L K k)(b:Bool):Kr L (Q.cj K b) (cj k b):=⟨h.nm,h.hd,rfl,h.ps⟩
theorem wP(q:Bool)(s:ByteArray):∀(E:Q.bj) (m:Int),(∀Z∈E,(∀p∈Z.1,0≤p)∧∀p∈Z.2,0≤p)→((E.foldl (fun m Z=>if 0≤Q.bD L (Q.bC q Z.1 Z.2) s then Q.bD L (Q.bC q Z.1 Z.2) s else m) m == -1)=(m == -1&&!bc (E.flatMap fun Z=>(Q.bC q Z.1 Z.2).map (aa L)) s))
 |[],m,_=>by simp[bc]
 |Z::E,m,h=>by
  rw[List.foldl_cons,wP q s E _ (fun X hX=>h X (List.mem_cons_of_mem _ hX)),List.flatMap_cons,Gg,Q.mD (Q.ov (h Z (List.mem_cons_self ..)) q) s];by_cases h0:0≤Q.bD L (Q.bC q Z.1 Z.2) s
  ·have h1:(Q.bD L (Q.bC q Z.1 Z.2) s == -1)=false:=by simp;omega
   rw[if_pos h0,decide_eq_true h0,h1];simp
  ·rw[if_neg h0,decide_eq_false h0,Bool.false_or]
theorem CS{K:Q.Kn}{k:Kn}(h:Kr L K k)(i:Int):Rl L (Q.df L K i) (df k (aa L i)):=by
 have hr:(Q.bX L false K.E (aa L i) == -1)=(true&&!bc k.nm (aa L i)):=h.nm▸wP false (aa L i) K.E (-1) h.ps;unfold df Q.df Q.gE;cases hb:bc k.nm (aa L i)<;>rw[hb]at hr
 ·exact⟨by simp[fK,hr],by simp[fK],rfl⟩
 ·exact⟨by simp[fK,hr,Ot.none],by simp[fK,Ot.none],rfl⟩
theorem LI{K:Q.Kn}{k:Kn}(h:Kr L K k)(i:Int):Rl L (Q.dw L K i) (dw k (aa L i)):=by
 have hr:(Q.bX L true K.E (aa L i) == -1)=(true&&!bc k.hd (aa L i)):=h.hd▸wP true (aa L i) K.E (-1) h.ps;unfold dw Q.dw Q.gE;cases hb:bc k.hd (aa L i)<;>rw[hb]at hr
 ·exact⟨by simp[fK],by simp[fK,hr],rfl⟩
 ·exact⟨by simp[fK,Ot.none],by simp[fK,hr,Ot.none],rfl⟩
theorem KK(hp:aR L=true)(b:Bool)(p:Int)(h0:0≤p):(Q.aN L b p).map (aa L)=aN L b p∧∀y∈Q.aN L b p,0≤y:=by
 cases hd:jA (aa L (p+1))
 ·have hw:∀c∈oQ,ae (aa L (p+1)) c=false:=fun c hc=>by simpa using List.any_eq_false.1 hd c hc
  unfold Q.aN dm aN;rw[hw [108,101,116] (by decide),hw [116,97,107,101] (by decide),hw [118,97,114,115] (by decide),hw [104,105,100,100,101,110] (by decide)];simp
 ·obtain⟨h1,h2⟩:=mh (mg hp hd);unfold Q.aN;by_cases hb:cY L p=b
  ·rw[if_pos hb,h1,hb];exact⟨rfl,fun y hy=>by have:=h2 y hy;omega⟩
  ·rw[if_neg hb];refine⟨?_,fun y hy=>by cases hy⟩;cases b
   ·exact(Cb (by simpa using hb)).symm
   ·exact(KJ (by simpa using hb)).symm
theorem uU(hp:aR L=true)(b:Bool):∀ps:List Int,(∀p∈ps,0≤p)→(ps.flatMap (Q.aN L b)).map (aa L)=ps.flatMap (aN L b)∧∀y∈ps.flatMap (Q.aN L b),0≤y
 |[],_=>⟨rfl,fun y hy=>by cases hy⟩
 |p::ps,h=>by
  obtain⟨a1,a2⟩:=KK hp b p (h p (List.mem_cons_self ..));obtain⟨b1,b2⟩:=uU hp b ps fun x hx=>h x (List.mem_cons_of_mem _ hx)
  rw[List.flatMap_cons,List.flatMap_cons,List.map_append,a1,b1];refine⟨rfl,fun y hy=>?_⟩;rcases List.mem_append.mp hy with hy|hy
  ·exact a2 y hy
  ·exact b2 y hy
theorem Cw:∀f i,∀p∈jZ L f i,0≤p
 |0,_,p,hp=>by cases hp
 |f+1,i,p,hp=>by
  unfold jZ at hp;split at hp
  ·rename_i h;rcases List.mem_cons.mp hp with rfl|hp
   ·exact h.1
   ·exact Cw f _ p hp
  ·cases hp
theorem Kv(ps:List Int)(h:∀p∈ps,0≤p):(ps.map (Q.be L)).map (aa L)=ps.map (be L)∧∀y∈ps.map (Q.be L),0≤y:=by
 refine⟨?_,fun y hy=>?_⟩
 ·rw[List.map_map];refine List.map_congr_left fun p _=>?_
  show aa L (Q.be L p)=be L p;unfold Q.be be;split<;>rfl
 ·obtain⟨p,hp,rfl⟩:=List.mem_map.mp hy;have:=h p hp;unfold Q.be;split<;>omega
theorem DH(hp:aR L=true):∀n m v i K k,Kr L K k→Rl L (Q.wk L n m v i K) (wk L n m v i k)
 |0,_,_,_,_,_,_=>rv
 |n+1,m,v,i,K,k,h=>by
  have IH:=DH hp n;have hpl:∀j,∀p∈aT L j,0≤p:=fun j=>Cw _ j
  refine jJ (fun _=>?_) (fun _=>?_)
  ·unfold Q.cH cH;refine jJ (fun _=>jJ (fun _=>CS h i) fun _=>rv) fun ho=>?_
   obtain⟨h0,_⟩:=bF (L:=L) (i:=i) (by simpa using ho);refine jJ (fun _=>?_) fun _=>?_
   ·have hP:=Kv (L:=L) (aT L (i+3)) (hpl _);have hK:=(h.names hP).loop false;unfold Q.fD fD;exact(wR (by unfold Q.gC;rw[hP.1])).add ((tE _ fun p _=>jJ (fun _=>IH _ _ _ _ _ hK) fun _=>rv).add (IH _ _ _ _ _ hK))
   refine jJ (fun _=>IH _ _ _ _ _ h) fun _=>?_
   refine jJ (fun _=>IH _ _ _ _ _ h) fun _=>?_
   refine jJ (fun _=>(CS h _).add (IH _ _ _ _ _ h)) fun _=>?_
   refine jJ (fun _=>IH _ _ _ _ _ h) fun _=>?_
   refine jJ (fun _=>(LI h _).add (tE _ fun p _=>IH _ _ _ _ _ h)) fun _=>?_
   refine jJ (fun _=>rv) fun _=>?_
   refine jJ (fun _=>wR (by rw[h.lp])) fun _=>?_
   refine jJ (fun _=>(IH _ _ _ _ _ h).add (IH _ _ _ _ _ (h.loop true))) fun _=>?_
   refine jJ (fun _=>(IH _ _ _ _ _ h).add ((IH _ _ _ _ _ h).add (IH _ _ _ _ _ ((h.loop true).names ⟨rfl,fun p hp=>?_⟩)))) fun _=>?_
   ·rw[List.mem_singleton]at hp;omega
   ·exact tE _ fun p _=>IH _ _ _ _ _ h
  ·have h1:=uU hp false (aT L i) (hpl i);have h2:=uU hp true (aT L i) (hpl i);unfold Q.jQ jQ;rw[show ∀(a b:Bool) (X:Q.Ot),(Q.cB (a||b)).add X=(Q.cB a).add ((Q.cB b).add X)from fun a b X=>by simp[Q.cB,Q.Ot.add,Bool.or_assoc]];exact(wR (by unfold Q.gC;rw[h1.1,h2.1])).add (CR v _ fun p _=>IH _ _ _ _ _ (h.block h1 h2))
theorem Fo(hp:aR L=true):Rl L (Q.eO L) (eO L):=DH hp _ _ _ _ _ _ ⟨rfl,rfl,rfl,fun Z hZ=>by cases hZ⟩
theorem xV:∀us:List (Int × Int × Bool),(us.any fun u=>u.2.1 == -1)=(!(fK L us false).isEmpty||!(fK L us true).isEmpty)
 |[]=>rfl
 |(a,b,c)::us=>by
  rw[List.any_cons,xV us,show(a,b,c)::us=[(a,b,c)]++us from rfl,pK,pK];cases h:(b == -1)<;>cases c<;>simp[fK,h]
theorem LN{x:fA}{U:Nat}(hp:aR L=true)(h:Q.la L x (Q.eO L) U):(!x.fu&&(!x.ft&&(!x.fo&&!x.fv)))=((eO L).fr.isEmpty&&((eO L).sc.isEmpty&&!(eO L).bad)):=by
 have hr:=Fo hp;have hu:=h.unk;have hb:=h.bad;rw[xV,hr.fr,hr.sc]at hu;rw[hr.bad]at hb;rw[hu,←hb];cases (eO L).fr.isEmpty<;>cases (eO L).sc.isEmpty<;>cases x.ft<;>cases x.fo<;>cases x.fv<;>rfl
end
set_option maxRecDepth 100000 in
set_option maxHeartbeats 4000000 in
theorem LW(a:Option Addr)(cap:Nat)(L:af)(w:World)(ht:dj w)(h:aD w a L)(hL:L.length≤1048576) :
  ah 19 #[.slice a L.length cap] w (aA (.bool (aR L&&((eO L).fr.isEmpty&&((eO L).sc.isEmpty&&!(eO L).bad)))) w):=by
 cases hp:aR L
 ·have HP:=aj hp;clear hp;go_enter func19,ntmps19;go_wp2_with fail;refine(wI a cap L _ ht h hL).mono ?_;rintro e w1 ⟨rfl,hb1⟩;rw[HP.out];go_wp2;go_ret;exact⟨rfl,hb1⟩
 ·have HP:=aj hp;have HRP:Hid (∀W,dj W→aD W a L→ah 34 #[.slice a L.length cap] W fun r w'=>∃(x:fA) (U:Nat),r=.returned (.agg #[.slice a L.length cap,x.vb,.int .i64 0,x.vu,.bool x.fu,.bool x.ft,.bool x.fo,.bool x.fv])∧w'.ownsRow W.heap.size 142 3 x.vu x.us.length (gW x.us)∧Q.la L x (Q.eO L) U∧U≤L.length∧ai W w'):=fun W h1 h2=>Q.CG a cap L W h1 h2 hp
  clear hp;go_enter func19,ntmps19;go_wp2_with fail;refine(wI a cap L _ ht h hL).mono ?_;rintro e w1 ⟨rfl,hb1⟩;rw[HP.out];go_wp2_with fail;refine(HRP.out _ (ig ht hb1) (h.call hb1)).mono ?_;rintro r w2 ⟨x,U,rfl,_,hS,_,hb2⟩;have HB:Hid ((true&&((eO L).fr.isEmpty&&((eO L).sc.isEmpty&&!(eO L).bad)))=(!x.fu&&(!x.ft&&(!x.fo&&!x.fv)))):=(LN HP.out hS).symm;have hfd:∀W,(Instr.field 58 (.agg #[.slice a L.length cap,x.vb,.int .i64 0,x.vu,.bool x.fu,.bool x.ft,.bool x.fo,.bool x.fv]) 4).run prog W=.ok (.agg #[.bool x.fu,.bool x.ft,.bool x.fo,.bool x.fv]) W:=fun _=>by kernel_rfl
  have hB:=aw hb1 hb2;clear hS HRP;generalize x.fu=b1 at hfd HB ⊢;generalize x.ft=b2 at hfd HB ⊢;generalize x.fo=b3 at hfd HB ⊢;generalize x.fv=b4 at hfd HB ⊢;cases b1<;>cases b2<;>cases b3<;>cases b4
  all_goals go_wp2
  all_goals go_ret
  all_goals exact⟨by rw[HB.out];rfl,hB⟩
end Go.Proofs.YtdojfommmpnbgaaGreatDoor
