import Derived.Test.YtdojfommmpnbgaaGreatDoorKAJ
namespace Go.Proofs.YtdojfommmpnbgaaGreatDoor
open Go.RowKit
def ey(L:af):Nat→Int→Int→Prop
 |0,i,e=>i=e
 |k+1,i,e=>fm L 1 i≠-1∧ey L k (fm L 1 i) e
def jj(L:af)(e:Int):Prop:=e=(L.length:Int)∨ae (aa L e) [41]=true
section
variable {L:af} {i x e:Int}
theorem jX(m:Nat)(hm:m<4)(i:Int):Ends L i (fm L m i):=(gr L).1 m i hm
theorem gu(m:Nat)(_hm:m≤11):fm L m (-1)=-1:=by
 by_cases h4:m<4
 ·have:=jX (L:=L) m h4 (-1);unfold Ends at this;omega
 ·have:=(gr L).2 m (-1) (by omega) (by omega);unfold Fw at this;omega
theorem uW(L:af):iC L (fm L):=by rw[←jl];exact uY L _
theorem iS(h:fm L 1 i≠-1):ag L i=fm L 1 i:=by
 rcases (uW L).2.1 1 i (by decide)with hk|hk
 ·exact absurd hk h
 ·exact hk.2
theorem lR(h:fm L 1 i≠-1):ae (aa L i) [40]=true:=by
 rw[ll]at h;unfold dB at h;cases ho:ae (aa L i) [40]
 ·rw[ho]at h;exact absurd rfl h
 ·rfl
theorem gU:∀k i,ey L k i e→0≤e→0≤i∧i≤e
 |0,i,h,he=>by
  have:i=e:=h;omega
 |k+1,i,h,he=>by
  have h1:=jX (L:=L) 1 (by decide) i;have h2:=gU k _ h.2 he;have h3:=h.1;unfold Ends at h1;omega
theorem Cp:∀f i,iN L f i=true→∃k,ey L k i (L.length:Int)
 |0,i,h=>⟨0,(of_decide_eq_true h:i=(L.length:Int))⟩
 |f+1,i,h=>by
  by_cases hin:0≤i∧i<(L.length:Int)
  ·by_cases hd:60<eA L i
   ·rw[tw hin hd]at h;exact absurd h (by decide)
   ·rw[tA hin hd,jl]at h;have hne:fm L 1 i≠-1:=fun hn=>by
     rw[hn,oj (by omega)]at h;have:=of_decide_eq_true h;omega
    obtain⟨k,hk⟩:=Cp f (fm L 1 i) h;exact⟨k+1,hne,hk⟩
  ·rw[oj hin]at h;exact⟨0,(of_decide_eq_true h:i=(L.length:Int))⟩
theorem mX(h:aR L=true):∃k,ey L k 0 (L.length:Int):=by
 unfold aR at h;rw[Bool.and_eq_true,Bool.and_eq_true]at h;exact Cp _ _ h.2.2
theorem vU:∀n i,aB L i≤n→0≤i→i≤(L.length:Int)+1→fm L 6 i≠-1→ae (aa L (fm L 6 i)) [41]=true∧∃k,ey L k i (fm L 6 i)
 |0,i,hf,h0,h1,_=>by have:=gm (L:=L) h0 h1;omega
 |n+1,i,hf,h0,h1,h=>by
  have hm:=jB (L:=L) (i:=i) 2 (by decide) (by omega) h1;rw[show 4+2=6 from rfl]at hm;unfold eC at hm;split at hm
  ·rename_i hs;rw[hm];rcases hs with hs|hs
   ·omega
   ·exact⟨hs,0,rfl⟩
  ·have ho:fX L (fm L) 2 i=fm L 1 i:=rfl;rw[ho,show 4+2=6 from rfl]at hm;have hne:fm L 1 i≠-1:=fun hn=>by
    rw[hm,hn,gu 6 (by decide)]at h;exact absurd rfl h
   have hE:=jX (L:=L) 1 (by decide) i;have hfe:=gV hE h1;unfold Ends at hE;rw[hm]at h ⊢;obtain⟨a,k,hk⟩:=vU n (fm L 1 i) (by omega) (by omega) (by omega) h;exact⟨a,k+1,hne,hk⟩
theorem tc:∀n i,aB L i≤n→0≤i→i≤(L.length:Int)+1→fm L 5 i≠-1→i≤fm L 5 i∧ae (aa L (fm L 5 i)) [41]=true∧∀k,i≤k→k<fm L 5 i→aV (aa L k)=true
 |0,i,hf,h0,h1,_=>by have:=gm (L:=L) h0 h1;omega
 |n+1,i,hf,h0,h1,h=>by
  have hm:=jB (L:=L) (i:=i) 1 (by decide) (by omega) h1;rw[show 4+1=5 from rfl]at hm;unfold eC at hm;split at hm
  ·rename_i hs;rw[hm];rcases hs with hs|hs
   ·omega
   ·exact⟨Int.le_refl _,hs,fun k a b=>by omega⟩
  ·have ho:fX L (fm L) 1 i=aU L i:=rfl;rw[ho,show 4+1=5 from rfl]at hm;have hne:aU L i≠-1:=fun hn=>by
    rw[hm,hn,gu 5 (by decide)]at h;exact absurd rfl h
   obtain⟨he,a0,a1,hb⟩:=jF hne;rw[he]at hm;have hfe:aB L (i+1)+1≤aB L i:=by unfold aB;rw[if_neg (by omega),if_neg (by omega)];omega
   rw[hm]at h ⊢;obtain⟨c0,c1,c2⟩:=tc n (i+1) (by omega) (by omega) (by omega) h;refine⟨by omega,c1,fun k d1 d2=>?_⟩;by_cases hk:k=i
   ·subst hk;exact hb
   ·exact c2 k (by omega) d2
end
def dN(L:af)(i x:Int):af:=(L.drop i.toNat).take (x-i).toNat
theorem C8(L:af)(i:Int):dN L i i=[]:=by simp[dN]
theorem Mo{L:af}{i x:Int}(h0:0≤i)(h1:i≤x)(h2:x<(L.length:Int)):dN L i (x+1)=dN L i x++[aa L x]:=by
 unfold dN;rw[show(x+1-i).toNat=(x-i).toNat+1 by omega,List.take_succ_eq_append_getElem (by simp;omega)];congr 1;rw[eT (by omega) h2,List.getElem_drop];congr 1;simp only[show i.toNat+(x-i).toNat=x.toNat by omega]
noncomputable def aN(L:af)(hid:Bool)(i:Int):af :=
 if hid then(if ae (aa L (i+1)) [104,105,100,100,101,110]then dN L (i+2) (fm L 5 (i+2))else [])
 else if ae (aa L (i+1)) [118,97,114,115]then dN L (i+2) (fm L 5 (i+2))
 else if ae (aa L (i+1)) [108,101,116]then [aa L (i+2)]
 else if ae (aa L (i+1)) [116,97,107,101]then dN L (i+3) (fm L 5 (i+4))
 else []
noncomputable def dA(L:af)(hid:Bool):Nat→Int→af
 |0,_=>[]
 |k+1,i=>aN L hid i++dA L hid k (fm L 1 i)
section
variable {L:af} {i:Int}
theorem pe:aK L (-1) [41]=-1:=kN (by decide) (by decide)
theorem fR(h:fm L 1 i≠-1):0≤i∧i+3≤fm L 1 i∧fm L 1 i≤(L.length:Int):=by
 have ho:=lR h;obtain⟨h0,h1⟩:=bF ho;rw[ll]at h ⊢;unfold dB at h ⊢;rw[if_pos ho]at h ⊢;split at h
 ·exact absurd rfl h
 ·rename_i hd;rw[if_neg hd];have hE:=y8 (gr L) (aa L (i+1)) (i:=i+2) (by omega);unfold Ends at hE;omega
theorem sk(h:fm L 1 i≠-1):fm L 1 i=bp L (fm L) (aa L (i+1)) (i+2):=by
 have ho:=lR h;rw[ll];unfold dB;rw[if_pos ho];simp
theorem kT{c:List UInt8}(h:fm L 1 i≠-1)(hc:aa L (i+1)=⟨c.toArray⟩)(hd:bp L (fm L) ⟨c.toArray⟩ (i+2)=aK L (fm L 5 (i+2)) [41]) :
  i+2≤fm L 5 (i+2)∧fm L 5 (i+2)<(L.length:Int)∧ae (aa L (fm L 5 (i+2))) [41]=true∧(∀k,i+2≤k→k<fm L 5 (i+2)→aV (aa L k)=true)∧fm L 1 i=fm L 5 (i+2)+1:=by
 have hl:=fR h;have he:=sk h;rw[hc,hd]at he;rw[he]at h;obtain⟨e1,e2,e3,e4⟩:=gM (by decide) h;have hn:=tc (L:=L) _ (i+2) (Nat.le_refl _) (by omega) (by omega) (fun hx=>by rw[hx]at e2;omega);exact⟨hn.1,e3,hn.2.1,hn.2.2,by rw[he,e1]⟩
theorem mo(h:fm L 1 i≠-1)(hc:aa L (i+1)=⟨#[116,97,107,101]⟩) :
  i+4≤fm L 5 (i+4)∧fm L 5 (i+4)<(L.length:Int)∧ae (aa L (fm L 5 (i+4))) [41]=true∧(∀k,i+3≤k→k<fm L 5 (i+4)→aV (aa L k)=true)∧ae (aa L (i+2)) [40]=true∧fm L 5 (i+4)+1<fm L 1 i:=by
 have hl:=fR h;have he:=sk h;rw[hc,sj]at he;have hq:aK L (i+2) [40]≠-1:=fun hx=>by
  rw[hx,show aU L (-1)=-1 from by have:=eD (L:=L) (i:=-1) (x:=-1) (Or.inl rfl);unfold Ends at this;omega,gu 5 (by decide),pe,gu 0 (by decide),pe]at he;exact h he
 obtain⟨q1,q2,q3,q4⟩:=gM (by decide) hq;rw[q1]at he;have hm:aU L (i+2+1)≠-1:=fun hx=>by
  rw[hx,gu 5 (by decide),pe,gu 0 (by decide),pe]at he;exact h he
 obtain⟨m1,m2,m3,m4⟩:=jF hm;rw[m1,show i+2+1+1=i+4 by omega]at he;have hp:aK L (fm L 5 (i+4)) [41]≠-1:=fun hx=>by
  rw[hx,gu 0 (by decide),pe]at he;exact h he
 obtain⟨p1,p2,p3,p4⟩:=gM (by decide) hp;have hn:=tc (L:=L) _ (i+4) (Nat.le_refl _) (by omega) (by omega) (fun hx=>by rw[hx]at p2;omega);refine⟨hn.1,p3,p4,fun k k1 k2=>?_,q4,?_⟩
 ·by_cases hk:k=i+3
  ·rw[hk,show i+3=i+2+1 by omega];exact m4
  ·exact hn.2.2 k (by omega) k2
 ·rw[p1]at he;have hz:=jX (L:=L) 0 (by decide) (fm L 5 (i+4)+1);rw[he]at h;obtain⟨z1,z2,z3,z4⟩:=gM (by decide) h;rw[he,z1];unfold Ends at hz;omega
theorem sV(h:fm L 1 i≠-1)(hc:aa L (i+1)=⟨#[108,101,116]⟩):aV (aa L (i+2))=true∧i+2<(L.length:Int)∧i+3<fm L 1 i:=by
 have hl:=fR h;have he:=sk h;rw[hc,zd]at he;have hm:aU L (i+2)≠-1:=fun hx=>by
  rw[hx,gu 0 (by decide),pe]at he;exact h he
 obtain⟨m1,m2,m3,m4⟩:=jF hm;refine⟨m4,m3,?_⟩;rw[m1]at he;have hz:=jX (L:=L) 0 (by decide) (i+2+1);rw[he]at h;obtain⟨z1,z2,z3,z4⟩:=gM (by decide) h;rw[he,z1];unfold Ends at hz;omega
theorem C7{L:af}{a b:Int}:(dN L a b).length≤(b-a).toNat:=by
 unfold dN;simp;omega
theorem tp(hid:Bool)(h:fm L 1 i≠-1):(aN L hid i).length≤(fm L 1 i-i).toNat:=by
 have hl:=fR h;have hs1:=C7 (L:=L) (a:=i+2) (b:=fm L 5 (i+2));have hs2:=C7 (L:=L) (a:=i+3) (b:=fm L 5 (i+4));unfold aN;split
 ·split
  ·rename_i hw;have:=kT (c:=[104,105,100,100,101,110]) h (aZ hw) nB;omega
  ·simp
 ·split
  ·rename_i hw;have:=kT (c:=[118,97,114,115]) h (aZ hw) nC;omega
  ·split
   ·simp;omega
   ·split
    ·rename_i hw;have:=mo h (aZ hw);omega
    ·simp
theorem wj{s:ByteArray}(h:aV s=true):ae s [41]=false:=(dD h).2
end
structure Ot where
 fr:af
 sc:af
 bad:Bool
def Ot.none:Ot:=⟨[],[],false⟩
def Ot.add(a b:Ot):Ot:=⟨a.fr++b.fr,a.sc++b.sc,a.bad||b.bad⟩
theorem Ot.add_assoc(a b c:Ot):(a.add b).add c=a.add (b.add c):=by simp[Ot.add,List.append_assoc,Bool.or_assoc]
structure Kn where
 nm:af
 hd:af
 lp:Bool
def df(K:Kn)(s:ByteArray):Ot:=if bc K.nm s then Ot.none else⟨[s],[],false⟩
def dw(K:Kn)(s:ByteArray):Ot:=if bc K.hd s then Ot.none else⟨[],[s],false⟩
def db(X:af):Bool:=(List.range X.length).any fun i=>bc (X.take i) (X.getD i ⟨#[]⟩)
theorem Nr{X:af}{i:Nat}(h:i<X.length)(hb:bc (X.take i) X[i]=true):db X=true:=by
 unfold db;rw[List.any_eq_true];exact⟨i,List.mem_range.2 h,by rw[show X.getD i ⟨#[]⟩=X[i] by simp[List.getD,h]];exact hb⟩
theorem Np{X:af}(h:∀i (h:i<X.length),bc (X.take i) X[i]=false):db X=false:=by
 unfold db;rw[List.any_eq_false];intro i hi;have hl:=List.mem_range.1 hi;rw[show X.getD i ⟨#[]⟩=X[i] by simp[List.getD,hl],h i hl];decide
def jZ(L:af):Nat→Int→List Int
 |0,_=>[]
 |f+1,i=>if 0≤i∧i<(L.length:Int)∧ae (aa L i) [41]=false then i::jZ L f (ag L i)else []
def aT(L:af)(i:Int):List Int:=jZ L (L.length+2) i
def aW(f:Int→Ot):List Int→Ot
 |[]=>Ot.none
 |p::ps=>(f p).add (aW f ps)
def iQ(L:af)(f:Int→Ot):Bool→List Int→Ot
 |_,[]=>Ot.none
 |v,p::ps=>(Ot.mk [] [] (ae (aa L (p+1)) [118,97,114,115]&&!v)).add ((f p).add (iQ L f false ps))
def be(L:af)(p:Int):ByteArray:=if ae (aa L p) [40]then aa L (p+1)else aa L p
def eE(L:af)(f:Int→Ot)(p:Int):Ot:=if ae (aa L p) [40]then f (p+2)else Ot.none
def cz(K:Kn)(X:af):Kn:={ K with nm:=K.nm++X }
def kD(K:Kn)(X:af):Kn:={ K with hd:=K.hd++X }
def cj(K:Kn)(b:Bool):Kn:={ K with lp:=b }
noncomputable def jQ(L:af)(r:Nat→Bool→Int→Kn→Ot)(v:Bool)(i:Int)(K:Kn):Ot :=
 (Ot.mk [] [] (db ((aT L i).flatMap (aN L false))||db ((aT L i).flatMap (aN L true)))).add
  (iQ L (fun p=>r 0 false p (kD (cz K ((aT L i).flatMap (aN L false))) ((aT L i).flatMap (aN L true)))) v (aT L i))
noncomputable def jR(L:af)(i:Int):Int:=fm L 7 (i+3)+1
noncomputable def fD(L:af)(r:Nat→Bool→Int→Kn→Ot)(i:Int)(K:Kn):Ot :=
 (Ot.mk [] [] (db ((aT L (i+3)).map (be L)))).add
  ((aW (eE L fun p=>r 0 false p (cj (cz K ((aT L (i+3)).map (be L))) false)) (aT L (i+3))).add
   (r 1 (!(aT L (i+3)).any fun p=>ae (aa L p) [40]) (jR L i) (cj (cz K ((aT L (i+3)).map (be L))) false)))
noncomputable def cH(L:af)(r:Nat→Bool→Int→Kn→Ot)(i:Int)(K:Kn):Ot :=
 if ae (aa L i) [40]=false then(if aV (aa L i)then df K (aa L i)else Ot.none)
 else if ae (aa L (i+1)) [102,110]then fD L r i K
 else if ae (aa L (i+1)) [100,111]then r 1 false (i+2) K
 else if ae (aa L (i+1)) [108,101,116]then r 0 false (i+3) K
 else if ae (aa L (i+1)) [115,101,116]then(df K (aa L (i+2))).add (r 0 false (i+3) K)
 else if ae (aa L (i+1)) [116,97,107,101]then r 0 false (ag L (i+2)) K
 else if ae (aa L (i+1)) [104,103,101,116]||ae (aa L (i+1)) [104,112,117,116]then(dw K (aa L (i+2))).add (aW (fun p=>r 0 false p K) (aT L (i+3)))
 else if ae (aa L (i+1)) [104,105,100,100,101,110]||ae (aa L (i+1)) [118,97,114,115]then Ot.none
 else if ae (aa L (i+1)) [108,101,97,118,101]||ae (aa L (i+1)) [110,101,120,116]then Ot.mk [] [] (!K.lp)
 else if ae (aa L (i+1)) [119,104,105,108,101]then(r 0 false (i+2) K).add (r 0 false (ag L (i+2)) (cj K true))
 else if ae (aa L (i+1)) [102,111,114]then(r 0 false (i+3) K).add ((r 0 false (ag L (i+3)) K).add (r 0 false (ag L (ag L (i+3))) (cz (cj K true) [aa L (i+2)])))
 else aW (fun p=>r 0 false p K) (aT L (i+2))
noncomputable def wk(L:af):Nat→Nat→Bool→Int→Kn→Ot
 |0,_,_,_,_=>Ot.none
 |n+1,m,v,i,K=>if m=0 then cH L (wk L n) i K else jQ L (wk L n) v i K
noncomputable def eO(L:af):Ot:=wk L (8*L.length+40) 1 true 0 ⟨[],[],false⟩
def Ot.plus(F o:Ot):Ot:=⟨dp F.fr o.fr,dp F.sc o.sc,F.bad||o.bad⟩
theorem Ot.OM(F a b:Ot):F.plus (a.add b)=(F.plus a).plus b:=by simp[Ot.plus,Ot.add,CA,Bool.or_assoc]
theorem Ot.OO(F:Ot):F.plus Ot.none=F:=by cases F;simp[Ot.plus,Ot.none,dp]
def iI:List (List UInt8 × Nat × List Nat × Option Nat):=[
 ([43],1,[1,1],none),([45],1,[1,1],none),([42],1,[1,1],none),([60],1,[1,1],none),([61],1,[1,1],none),([38],1,[1,1],none),([102,110],1,[7],some 3),([99,97,108,108],1,[1],some 1),([116,104,105,110,103],1,[],some 1),([103,101,116],1,[1,1],none),([106,111,105,110],1,[],some 1),([116,97,98,108,101],1,[],none),([116,103,101,116],1,[1,1],none),([104,103,101,116],1,[4,1],none),([108,101,116],3,[4,1],none),([116,97,107,101],3,[5,1],none),([104,105,100,100,101,110],3,[],some 4),([118,97,114,115],3,[],some 4),([115,101,116],2,[4,1],none),([100,111],2,[],some 3),([105,102],2,[1,2,2],none),([119,104,105,108,101],2,[1,2],none),([102,111,114],2,[4,1,1,2],none),([115,97,121],2,[1],none),([98,97,99,107],2,[1],none),([108,101,97,118,101],2,[],none),([110,101,120,116],2,[],none),([112,117,116],2,[1,1,1],none),([114,117,110],2,[1],none),([104,112,117,116],2,[4,1,1],none),([116,112,117,116],2,[1,1,1],none),([],5,[4],some 4),([],7,[],some 6),([],6,[4,1],none)]
def gp(k w:Nat):Bool:=k==w||(k==2&&w==3)
def dF(h:List UInt8)(w:Nat)(f:List UInt8 × Nat × List Nat × Option Nat):Bool:=gp f.2.1 w&&(f.1.isEmpty||f.1==h)
def cP(h:List UInt8)(w:Nat):Option (List UInt8 × Nat × List Nat × Option Nat):=iI.find? (dF h w)
def iu(s:ByteArray)(w:Nat):Bool:=if w=1 then ic s else if w=4∨w=6 then aV s else false
def br(t:List Nat × Option Nat):Nat:=match t with|([],none)=>0|([],some p)=>p|(p::_,_)=>p
def cw(t:List Nat × Option Nat):Bool:=t.1.isEmpty
def gN(t:List Nat × Option Nat):List Nat × Option Nat:=(t.1.tail,t.2)
def fW(L:af):Nat→Int→(List Nat × Option Nat)→List (List Nat × Option Nat)→Int
 |0,_,_,_=>-1
 |f+1,i,t,S =>
  if 0≤i∧i<(L.length:Int)then
   if ae (aa L i) [41]then(if cw t then(match S with|[]=>-1|[_]=>i+1|u::S'=>fW L f (i+1) u S')else -1)
   else if ae (aa L i) [40]then(match cP (aa L (i+1)).toList (br t)with|none=>-1|some g=>fW L f (if g.1.isEmpty then i+1 else i+2) (g.2.2.1,g.2.2.2) (gN t::S))
   else if iu (aa L i) (br t)then(match S with|[]=>i+1|_::_=>fW L f (i+1) (gN t) S)else -1
  else -1
theorem Bp(L:af):∀(f f':Nat) (i:Int) (t:List Nat × Option Nat) (S:List (List Nat × Option Nat)),0≤i→(L.length:Int)-i<(f:Int)→(L.length:Int)-i<(f':Int)→fW L f i t S=fW L f' i t S
 |0,0,_,_,_,_,_,_=>rfl
 |0,f'+1,i,t,S,h0,h,_=>by
  unfold fW;rw[if_neg (by omega)]
 |f+1,0,i,t,S,h0,_,h=>by
  unfold fW;rw[if_neg (by omega)]
 |f+1,f'+1,i,t,S,h0,h,h'=>by
  have IH:=Bp L f f';unfold fW;split
  ·split
   ·split
    ·match S with
     |[]=>rfl
     |[_]=>rfl
     |u::v::S'=>exact IH (i+1) u (v::S') (by omega) (by omega) (by omega)
    ·rfl
   ·split
    ·cases cP (aa L (i+1)).toList (br t)with
     |none=>rfl
     |some g =>
      show fW L f (if g.1.isEmpty then i+1 else i+2) _ _=fW L f' (if g.1.isEmpty then i+1 else i+2) _ _;split
      ·exact IH _ _ _ (by omega) (by omega) (by omega)
      ·exact IH _ _ _ (by omega) (by omega) (by omega)
    ·split
     ·match S with
      |[]=>rfl
      |_::_=>exact IH _ _ _ (by omega) (by omega) (by omega)
     ·rfl
  ·rfl
theorem Bi(L:af):∃F:Int→(List Nat × Option Nat)→List (List Nat × Option Nat)→Int,F=fW L (L.length+1):=⟨_,rfl⟩
noncomputable def de(L:af):Int→(List Nat × Option Nat)→List (List Nat × Option Nat)→Int:=Classical.choose (Bi L)
theorem qX(L:af):fW L (L.length+1)=de L:=(Classical.choose_spec (Bi L)).symm
theorem mK(L:af){i:Int}(h0:0≤i)(t:List Nat × Option Nat)(S:List (List Nat × Option Nat)):de L i t S=fW L (L.length+1+1) i t S:=by
 rw[←qX];exact Bp L _ _ i t S h0 (by omega) (by omega)
section
variable {L:af} {i:Int} {t:List Nat × Option Nat} {S:List (List Nat × Option Nat)}
theorem pw(h:¬(0≤i∧i<(L.length:Int))):de L i t S=-1:=by
 rw[←qX];unfold fW;rw[if_neg h]
theorem vT(h0:0≤i)(h1:i<(L.length:Int))(hc:ae (aa L i) [41]=true)(hm:cw t=false):de L i t S=-1:=by
 rw[mK L h0];unfold fW;rw[if_pos ⟨h0,h1⟩,if_pos hc,hm];rfl
theorem Bk{u:List Nat × Option Nat}(h0:0≤i)(h1:i<(L.length:Int))(hc:ae (aa L i) [41]=true)(hm:cw t=true):de L i t [u]=i+1:=by
 rw[mK L h0];unfold fW;rw[if_pos ⟨h0,h1⟩,if_pos hc,hm];rfl
theorem Bq{u v:List Nat × Option Nat}(h0:0≤i)(h1:i<(L.length:Int))(hc:ae (aa L i) [41]=true)(hm:cw t=true):de L i t (u::v::S)=de L (i+1) u (v::S):=by
 rw[mK L h0];unfold fW;rw[if_pos ⟨h0,h1⟩,if_pos hc,hm,qX];rfl
theorem Bh(h0:0≤i)(h1:i<(L.length:Int))(hc:ae (aa L i) [41]=false)(ho:ae (aa L i) [40]=true)(hn:cP (aa L (i+1)).toList (br t)=none):de L i t S=-1:=by
 rw[mK L h0];unfold fW;rw[if_pos ⟨h0,h1⟩,hc,ho,hn];rfl
theorem Bo{g:List UInt8 × Nat × List Nat × Option Nat}(h0:0≤i)(h1:i<(L.length:Int))(hc:ae (aa L i) [41]=false)(ho:ae (aa L i) [40]=true)(hn:cP (aa L (i+1)).toList (br t)=some g) :
  de L i t S=de L (if g.1.isEmpty then i+1 else i+2) (g.2.2.1,g.2.2.2) (gN t::S):=by
 rw[mK L h0];unfold fW;rw[if_pos ⟨h0,h1⟩,hc,ho,hn,qX];rfl
theorem Bm(h0:0≤i)(h1:i<(L.length:Int))(hc:ae (aa L i) [41]=false)(ho:ae (aa L i) [40]=false)(ha:iu (aa L i) (br t)=false):de L i t S=-1:=by
 rw[mK L h0];unfold fW;rw[if_pos ⟨h0,h1⟩,hc,ho,ha];rfl
theorem Bn(h0:0≤i)(h1:i<(L.length:Int))(hc:ae (aa L i) [41]=false)(ho:ae (aa L i) [40]=false)(ha:iu (aa L i) (br t)=true):de L i t []=i+1:=by
 rw[mK L h0];unfold fW;rw[if_pos ⟨h0,h1⟩,hc,ho,ha];rfl
theorem Bj{u:List Nat × Option Nat}(h0:0≤i)(h1:i<(L.length:Int))(hc:ae (aa L i) [41]=false)(ho:ae (aa L i) [40]=false)(ha:iu (aa L i) (br t)=true):de L i t (u::S)=de L (i+1) (gN t) (u::S):=by
 rw[mK L h0];unfold fW;rw[if_pos ⟨h0,h1⟩,hc,ho,ha,qX];rfl
end
noncomputable def aJ(L:af)(w:Nat)(i:Int):Int :=
 if w=1 then fm L 0 i else if w=2 then fm L 2 i else if w=3 then fm L 1 i else if w=4 then aU L i
 else if w=5 then aK L (fm L 5 (aU L (aK L i [40]))) [41]else if w=6 then fm L 3 i else if w=7 then aK L (fm L 7 (aK L i [40])) [41]else -1
noncomputable def bW(L:af):List Nat→Int→Int
 |[],i=>i
 |p::ps,i=>bW L ps (aJ L p i)
noncomputable def eH(L:af)(r:Option Nat)(i:Int):Int :=
 match r with
 |none=>i
 |some p=>if p=1 then fm L 4 i else if p=4 then fm L 5 i else if p=3 then fm L 6 i else if p=6 then fm L 7 i else -1
noncomputable def cC(L:af)(t:List Nat × Option Nat)(i:Int):Int:=aK L (eH L t.2 (bW L t.1 i)) [41]
section
variable {L:af} {i:Int}
theorem oS(w:Nat)(h:-1≤i):Ends L i (aJ L w i):=by
 have hg:=gr L;unfold aJ;have hF:Fw L i i:=mE h;split
 ·exact hg.1 0 i (by decide)
 split
 ·exact hg.1 2 i (by decide)
 split
 ·exact hg.1 1 i (by decide)
 split
 ·exact eD hF
 split
 ·exact fT (by decide) (hg.I (by decide) (eD (fT (by decide) hF).I).I)
 split
 ·exact hg.1 3 i (by decide)
 split
 ·exact fT (by decide) (hg.I (by decide) (fT (by decide) hF).I)
 ·exact nG
theorem jV(w:Nat):aJ L w (-1)=-1:=by
 have:=oS (L:=L) (i:=-1) w (by decide);unfold Ends at this;omega
theorem me:∀ps,bW L ps (-1)=-1
 |[]=>rfl
 |p::ps=>by
  unfold bW;rw[jV];exact me ps
theorem pI(r:Option Nat):eH L r (-1)=-1:=by
 unfold eH;have hg:=gr L;have key:∀m,4≤m→fm L m (-1)=-1:=fun m hm=>by
  have:=hg.2 m (-1) hm (by decide);unfold Fw at this;omega
 match r with
 |none=>rfl
 |some p =>
  show(if p=1 then fm L 4 (-1)else if p=4 then fm L 5 (-1)else if p=3 then fm L 6 (-1)else if p=6 then fm L 7 (-1)else -1)=-1;rw[key 4 (by decide),key 5 (by decide),key 6 (by decide),key 7 (by decide)];simp only[ite_self]
theorem uw(t:List Nat × Option Nat):cC L t (-1)=-1:=by
 unfold cC;rw[me,pI];exact kN (by decide) (by decide)
theorem dH(h:ae (aa L i) [41]=true):0≤i∧i<(L.length:Int):=by
 by_cases hin:0≤i∧i<(L.length:Int)
 ·exact hin
 ·rw[fZ hin,nN _ (by decide)]at h;exact absurd h (by decide)
theorem Jh:aV ⟨#[41]⟩=false:=by decide
theorem JK:ic ⟨#[41]⟩=false:=by decide +kernel
theorem Jg:aV ⟨#[40]⟩=false:=by decide
theorem Ji(h:ae (aa L i) [40]=true):aU L i=-1:=by
 unfold aU;rw[aZ h,Jg];rfl
theorem JW(h:ae (aa L i) [41]=true):ae (aa L i) [40]=false:=by
 rw[aZ h];decide +kernel
theorem sM{c:List UInt8}(h:ae (aa L i) c=false):aK L i c=-1:=by
 unfold aK;rw[h];rfl
theorem ls{c:List UInt8}(h:ae (aa L i) c=true):aK L i c=i+1:=by
 unfold aK;rw[h];rfl
theorem qA(m:Nat)(hm:4≤m):fm L m (-1)=-1:=by
 have:=(gr L).2 m (-1) hm (by decide);unfold Fw at this;omega
theorem BM:aU L (-1)=-1:=by
 unfold aU;rw[fZ (by omega)];rfl
theorem zH(w:Nat)(ho:ae (aa L i) [40]=false):aJ L w i=if iu (aa L i) w then i+1 else -1:=by
 match w with
 |0=>rfl
 |1 =>
  show fm L 0 i=if ic (aa L i)then i+1 else -1
  rw[ln];unfold bR;rw[ho];rfl
 |2 =>
  show fm L 2 i=-1;rw[nJ];unfold dB;rw[ho];rfl
 |3 =>
  show fm L 1 i=-1;rw[ll];unfold dB;rw[ho];rfl
 |4=>rfl
 |5 =>
  show aK L (fm L 5 (aU L (aK L i [40]))) [41]=-1;rw[sM ho,BM,qA 5 (by decide),kN (by decide) (by decide)]
 |6 =>
  show fm L 3 i=if aV (aa L i)then i+1 else -1
  rw[nK];unfold eG;rw[ho];rfl
 |7 =>
  show aK L (fm L 7 (aK L i [40])) [41]=-1;rw[sM ho,qA 7 (by decide),kN (by decide) (by decide)]
 |k+8 =>
  have hE:aJ L (k+8) i=-1:=by
   unfold aJ;repeat rw[if_neg (by omega)]
  have hA:iu (aa L i) (k+8)=false:=by
   unfold iu;repeat rw[if_neg (by omega)]
  rw[hE,hA];rfl
theorem sA(w:Nat)(h:ae (aa L i) [41]=true):aJ L w i=-1:=by
 rw[zH w (JW h)];have:iu (aa L i) w=false:=by
  rw[aZ h];unfold iu;split
  ·exact JK
  ·split
   ·exact Jh
   ·rfl
 rw[this];rfl
theorem wQ{p:Nat}(hp:p=1∨p=3∨p=4∨p=6)(h0:0≤i)(h1:i≤(L.length:Int)+1)(hc:ae (aa L i) [41]=false):eH L (some p) i=eH L (some p) (aJ L p i):=by
 have hno:¬(i<0∨ae (aa L i) [41]=true):=by rw[hc];simp;omega
 obtain rfl|rfl|rfl|rfl:=hp
 ·show fm L (4+0) i=fm L (4+0) (fm L 0 i);rw[jB 0 (by decide) (by omega) h1];unfold eC;rw[if_neg hno];rfl
 ·show fm L (4+2) i=fm L (4+2) (fm L 1 i);rw[jB 2 (by decide) (by omega) h1];unfold eC;rw[if_neg hno];rfl
 ·show fm L (4+1) i=fm L (4+1) (aU L i);rw[jB 1 (by decide) (by omega) h1];unfold eC;rw[if_neg hno];rfl
 ·show fm L (4+3) i=fm L (4+3) (fm L 3 i);rw[jB 3 (by decide) (by omega) h1];unfold eC;rw[if_neg hno];rfl
theorem CP{p:Nat}(hp:p=1∨p=3∨p=4∨p=6)(h0:0≤i)(h1:i≤(L.length:Int)+1)(hc:ae (aa L i) [41]=true):eH L (some p) i=i:=by
 have hno:(i<0∨ae (aa L i) [41]=true):=Or.inr hc;obtain rfl|rfl|rfl|rfl:=hp
 ·show fm L (4+0) i=i;rw[jB 0 (by decide) (by omega) h1];unfold eC;rw[if_pos hno]
 ·show fm L (4+2) i=i;rw[jB 2 (by decide) (by omega) h1];unfold eC;rw[if_pos hno]
 ·show fm L (4+1) i=i;rw[jB 1 (by decide) (by omega) h1];unfold eC;rw[if_pos hno]
 ·show fm L (4+3) i=i;rw[jB 3 (by decide) (by omega) h1];unfold eC;rw[if_pos hno]
theorem M8{j:Int}(h0:-1≤j)(h1:j≤(L.length:Int)+1):fm L 8 j=j:=by
 show fm L (8+0) j=j;rw[qB 0 (by decide) h0 h1];rfl
theorem xo(k:Nat)(hk:k+1≤3){j:Int}(h0:-1≤j)(h1:j≤(L.length:Int)+1):fm L (8+(k+1)) j=fm L (8+k) (fm L 0 j):=by
 rw[qB (k+1) hk h0 h1];show(if j<0 then j else fm L (8+k) (fm L 0 j))=_;split
 ·have e:j=-1:=by omega
  subst e;have h:=jV (L:=L) 1;unfold aJ at h;rw[if_pos rfl]at h;rw[h,qA (8+k) (by omega)]
 ·rfl
theorem ng{j:Int}(h0:-1≤j)(h1:j≤(L.length:Int)+1):fm L 10 j=fm L 0 (fm L 0 j):=by
 have e1:=(gr L).1 0 j (by decide);have e2:=(gr L).1 0 (fm L 0 j) (by decide);unfold Ends at e1 e2;show fm L (8+(1+1)) j=_;rw[xo 1 (by decide) h0 h1];show fm L (8+(0+1)) (fm L 0 j)=_;rw[xo 0 (by decide) (by omega) (by omega)];exact M8 (by omega) (by omega)
theorem tM{j:Int}(h0:-1≤j)(h1:j≤(L.length:Int)+1):fm L 11 j=fm L 0 (fm L 0 (fm L 0 j)):=by
 have e1:=(gr L).1 0 j (by decide);unfold Ends at e1;show fm L (8+(2+1)) j=_;rw[xo 2 (by decide) h0 h1];exact ng (by omega) (by omega)
end
section
variable {L:af} {i:Int}
noncomputable def tf(L:af)(i:Int)(g:Option (List UInt8 × Nat × List Nat × Option Nat)):Int :=
 match g with
 |none=>-1
 |some g=>cC L (g.2.2.1,g.2.2.2) (if g.1.isEmpty then i+1 else i+2)
theorem bE(c:List UInt8):(⟨c.toArray⟩:ByteArray).toList=c:=by rw[ByteArray.toList_eq]
theorem cg{s:ByteArray}{c:List UInt8}(h:s≠⟨c.toArray⟩):(c==s.toList)=false:=by
 cases e:(c==s.toList)
 ·rfl
 ·rw[beq_iff_eq]at e;exact absurd (jS (by rw[e,ByteArray.toList_eq])) h
theorem JX(ho:ae (aa L i) [40]=true):aJ L 1 i=tf L i (cP (aa L (i+1)).toList 1):=by
 obtain⟨h0,h1⟩:=bF ho;have b0:(-1:Int)≤i+2:=by omega
 have b1:i+2≤(L.length:Int)+1:=by omega
 have e0:aJ L 1 i=bR L (fm L) i:=ln L i;rw[e0];by_cases hop:kv (aa L (i+1))=true
 ·rw[MV ho hop,ng b0 b1];have hm:=(re _).mp hop;unfold dV at hm;simp only[List.mem_cons,List.not_mem_nil,or_false]at hm;rcases hm with h|h|h|h|h|h<;>rw[h]<;>rw[show ∀c:List UInt8,(⟨c.toArray⟩:ByteArray).toList=c from bE]<;>rfl
 rw[Bool.not_eq_true]at hop;by_cases hget:aa L (i+1)=⟨#[103,101,116]⟩
 ·rw[ML ho hget,hget,bE [103,101,116],ng b0 b1];rfl
 by_cases htget:aa L (i+1)=⟨#[116,103,101,116]⟩
 ·rw[MZ ho htget,htget,bE [116,103,101,116],ng b0 b1];rfl
 by_cases hfn:aa L (i+1)=⟨#[102,110]⟩
 ·rw[MK ho hfn,hfn,bE [102,110]];rfl
 by_cases hcall:aa L (i+1)=⟨#[99,97,108,108]⟩
 ·rw[MH ho hcall,hcall,bE [99,97,108,108]];rfl
 by_cases hthing:aa L (i+1)=⟨#[116,104,105,110,103]⟩
 ·rw[M0 ho hthing,hthing,bE [116,104,105,110,103]];rfl
 by_cases hjoin:aa L (i+1)=⟨#[106,111,105,110]⟩
 ·rw[MS ho hjoin,hjoin,bE [106,111,105,110]];rfl
 by_cases htable:aa L (i+1)=⟨#[116,97,98,108,101]⟩
 ·rw[MY ho htable,htable,bE [116,97,98,108,101]];rfl
 by_cases hhget:aa L (i+1)=⟨#[104,103,101,116]⟩
 ·rw[MQ ho hhget,hhget,bE [104,103,101,116]];rfl
 rw[MU ho hop hget htget hfn hcall hthing hjoin htable hhget];have hn:cP (aa L (i+1)).toList 1=none:=by
  have hq:∀c∈dV,aa L (i+1)≠c:=fun c hc e=>by
   rw[(re _).mpr (e▸hc)]at hop;exact absurd hop (by decide)
  have hplus:aa L (i+1)≠⟨#[43]⟩:=hq _ (by simp[dV]);have hminus:aa L (i+1)≠⟨#[45]⟩:=hq _ (by simp[dV]);have htimes:aa L (i+1)≠⟨#[42]⟩:=hq _ (by simp[dV]);have hless:aa L (i+1)≠⟨#[60]⟩:=hq _ (by simp[dV]);have hsame:aa L (i+1)≠⟨#[61]⟩:=hq _ (by simp[dV]);have hcat:aa L (i+1)≠⟨#[38]⟩:=hq _ (by simp[dV]);unfold cP;rw[List.find?_eq_none];intro x hx;unfold iI at hx;simp only[List.mem_cons,List.not_mem_nil,or_false]at hx;rcases hx with rfl|rfl|rfl|rfl|rfl|rfl|rfl|rfl|rfl|rfl|rfl|rfl|rfl|rfl|rfl|rfl|rfl|rfl|rfl|rfl|rfl|rfl|rfl|rfl|rfl|rfl|rfl|rfl|rfl|rfl|rfl|rfl|rfl|rfl<;>simp only[dF,gp,cg hplus (c:=[43]),cg hminus (c:=[45]),cg htimes (c:=[42]),cg hless (c:=[60]),cg hsame (c:=[61]),cg hcat (c:=[38]),cg hget (c:=[103,101,116]),cg htget (c:=[116,103,101,116]),cg hfn (c:=[102,110]),cg hcall (c:=[99,97,108,108]),cg hthing (c:=[116,104,105,110,103]),cg hjoin (c:=[106,111,105,110]),cg htable (c:=[116,97,98,108,101]),cg hhget (c:=[104,103,101,116])]<;>first|exact Bool.false_ne_true|decide
 rw[hn];rfl
theorem JV(ho:ae (aa L i) [40]=true):aJ L 2 i=tf L i (cP (aa L (i+1)).toList 2):=by
 obtain⟨h0,h1⟩:=bF ho;have b0:(-1:Int)≤i+2:=by omega
 have b1:i+2≤(L.length:Int)+1:=by omega
 have hnm:=eD (L:=L) (mE b0);unfold Ends at hnm;have n0:-1≤aU L (i+2):=by omega
 have n1:aU L (i+2)≤(L.length:Int)+1:=by omega
 clear hnm;have e0:aJ L 2 i=dB L (fm L) false i:=nJ L i;rw[e0];unfold dB;rw[if_pos ho];generalize aa L (i+1)=s;by_cases hlet:s=⟨#[108,101,116]⟩
 ·rw[hlet,yP,bE [108,101,116]];rfl
 by_cases htake:s=⟨#[116,97,107,101]⟩
 ·rw[htake,yV,bE [116,97,107,101]];rfl
 by_cases hhidden:s=⟨#[104,105,100,100,101,110]⟩
 ·rw[hhidden,yL,bE [104,105,100,100,101,110]];rfl
 by_cases hvars:s=⟨#[118,97,114,115]⟩
 ·rw[hvars,yX,bE [118,97,114,115]];rfl
 by_cases hset:s=⟨#[115,101,116]⟩
 ·rw[hset,yU,zj,bE [115,101,116]];rfl
 by_cases hdo:s=⟨#[100,111]⟩
 ·rw[hdo,yJ,y7,bE [100,111]];rfl
 by_cases hif:s=⟨#[105,102]⟩
 ·rw[hif,yN,zb,bE [105,102]];rfl
 by_cases hwhile:s=⟨#[119,104,105,108,101]⟩
 ·rw[hwhile,yY,zl,bE [119,104,105,108,101]];rfl
 by_cases hfor:s=⟨#[102,111,114]⟩
 ·rw[hfor,yK,y9,bE [102,111,114],ng n0 n1];rfl
 by_cases hsay:s=⟨#[115,97,121]⟩
 ·rw[hsay,yT,zi,bE [115,97,121]];rfl
 by_cases hback:s=⟨#[98,97,99,107]⟩
 ·rw[hback,yI,y6,bE [98,97,99,107]];rfl
 by_cases hleave:s=⟨#[108,101,97,118,101]⟩
 ·rw[hleave,yO,zc,bE [108,101,97,118,101]];rfl
 by_cases hnext:s=⟨#[110,101,120,116]⟩
 ·rw[hnext,yQ,ze,bE [110,101,120,116]];rfl
 by_cases hput:s=⟨#[112,117,116]⟩
 ·rw[hput,yR,zg,bE [112,117,116],tM b0 b1];rfl
 by_cases hrun:s=⟨#[114,117,110]⟩
 ·rw[hrun,yS,zh,bE [114,117,110]];rfl
 by_cases hhput:s=⟨#[104,112,117,116]⟩
 ·rw[hhput,yM,za,bE [104,112,117,116],ng n0 n1];rfl
 by_cases htput:s=⟨#[116,112,117,116]⟩
 ·rw[htput,yW,zk,bE [116,112,117,116],tM b0 b1];rfl
 rw[zf hlet hset htake hhidden hvars hdo hif hwhile hfor hsay hback hrun hleave hnext hput htput hhput,ite_self];have hn:cP s.toList 2=none:=by
  unfold cP;rw[List.find?_eq_none];intro x hx;unfold iI at hx;simp only[List.mem_cons,List.not_mem_nil,or_false]at hx;rcases hx with rfl|rfl|rfl|rfl|rfl|rfl|rfl|rfl|rfl|rfl|rfl|rfl|rfl|rfl|rfl|rfl|rfl|rfl|rfl|rfl|rfl|rfl|rfl|rfl|rfl|rfl|rfl|rfl|rfl|rfl|rfl|rfl|rfl|rfl<;>simp only[dF,gp,cg hlet (c:=[108,101,116]),cg htake (c:=[116,97,107,101]),cg hhidden (c:=[104,105,100,100,101,110]),cg hvars (c:=[118,97,114,115]),cg hset (c:=[115,101,116]),cg hdo (c:=[100,111]),cg hif (c:=[105,102]),cg hwhile (c:=[119,104,105,108,101]),cg hfor (c:=[102,111,114]),cg hsay (c:=[115,97,121]),cg hback (c:=[98,97,99,107]),cg hleave (c:=[108,101,97,118,101]),cg hnext (c:=[110,101,120,116]),cg hput (c:=[112,117,116]),cg hrun (c:=[114,117,110]),cg hhput (c:=[104,112,117,116]),cg htput (c:=[116,112,117,116])]<;>first|exact Bool.false_ne_true|decide
 rw[hn];rfl
theorem JS(ho:ae (aa L i) [40]=true):aJ L 3 i=tf L i (cP (aa L (i+1)).toList 3):=by
 obtain⟨h0,h1⟩:=bF ho;have b0:(-1:Int)≤i+2:=by omega
 have b1:i+2≤(L.length:Int)+1:=by omega
 have hnm:=eD (L:=L) (mE b0);unfold Ends at hnm;have n0:-1≤aU L (i+2):=by omega
 have n1:aU L (i+2)≤(L.length:Int)+1:=by omega
 clear hnm;have e0:aJ L 3 i=dB L (fm L) true i:=ll L i;rw[e0];unfold dB;rw[if_pos ho];generalize aa L (i+1)=s;by_cases hlet:s=⟨#[108,101,116]⟩
 ·rw[hlet,yP,zd,bE [108,101,116]];rfl
 by_cases htake:s=⟨#[116,97,107,101]⟩
 ·rw[htake,yV,sj,bE [116,97,107,101]];rfl
 by_cases hhidden:s=⟨#[104,105,100,100,101,110]⟩
 ·rw[hhidden,yL,nB,bE [104,105,100,100,101,110]];rfl
 by_cases hvars:s=⟨#[118,97,114,115]⟩
 ·rw[hvars,yX,nC,bE [118,97,114,115]];rfl
 by_cases hset:s=⟨#[115,101,116]⟩
 ·rw[hset,yU,zj,bE [115,101,116]];rfl
 by_cases hdo:s=⟨#[100,111]⟩
 ·rw[hdo,yJ,y7,bE [100,111]];rfl
 by_cases hif:s=⟨#[105,102]⟩
 ·rw[hif,yN,zb,bE [105,102]];rfl
 by_cases hwhile:s=⟨#[119,104,105,108,101]⟩
 ·rw[hwhile,yY,zl,bE [119,104,105,108,101]];rfl
 by_cases hfor:s=⟨#[102,111,114]⟩
 ·rw[hfor,yK,y9,bE [102,111,114],ng n0 n1];rfl
 by_cases hsay:s=⟨#[115,97,121]⟩
 ·rw[hsay,yT,zi,bE [115,97,121]];rfl
 by_cases hback:s=⟨#[98,97,99,107]⟩
 ·rw[hback,yI,y6,bE [98,97,99,107]];rfl
 by_cases hleave:s=⟨#[108,101,97,118,101]⟩
 ·rw[hleave,yO,zc,bE [108,101,97,118,101]];rfl
 by_cases hnext:s=⟨#[110,101,120,116]⟩
 ·rw[hnext,yQ,ze,bE [110,101,120,116]];rfl
 by_cases hput:s=⟨#[112,117,116]⟩
 ·rw[hput,yR,zg,bE [112,117,116],tM b0 b1];rfl
 by_cases hrun:s=⟨#[114,117,110]⟩
 ·rw[hrun,yS,zh,bE [114,117,110]];rfl
 by_cases hhput:s=⟨#[104,112,117,116]⟩
 ·rw[hhput,yM,za,bE [104,112,117,116],ng n0 n1];rfl
 by_cases htput:s=⟨#[116,112,117,116]⟩
 ·rw[htput,yW,zk,bE [116,112,117,116],tM b0 b1];rfl
 rw[zf hlet hset htake hhidden hvars hdo hif hwhile hfor hsay hback hrun hleave hnext hput htput hhput,ite_self];have hn:cP s.toList 3=none:=by
  unfold cP;rw[List.find?_eq_none];intro x hx;unfold iI at hx;simp only[List.mem_cons,List.not_mem_nil,or_false]at hx;rcases hx with rfl|rfl|rfl|rfl|rfl|rfl|rfl|rfl|rfl|rfl|rfl|rfl|rfl|rfl|rfl|rfl|rfl|rfl|rfl|rfl|rfl|rfl|rfl|rfl|rfl|rfl|rfl|rfl|rfl|rfl|rfl|rfl|rfl|rfl<;>simp only[dF,gp,cg hlet (c:=[108,101,116]),cg htake (c:=[116,97,107,101]),cg hhidden (c:=[104,105,100,100,101,110]),cg hvars (c:=[118,97,114,115]),cg hset (c:=[115,101,116]),cg hdo (c:=[100,111]),cg hif (c:=[105,102]),cg hwhile (c:=[119,104,105,108,101]),cg hfor (c:=[102,111,114]),cg hsay (c:=[115,97,121]),cg hback (c:=[98,97,99,107]),cg hleave (c:=[108,101,97,118,101]),cg hnext (c:=[110,101,120,116]),cg hput (c:=[112,117,116]),cg hrun (c:=[114,117,110]),cg hhput (c:=[104,112,117,116]),cg htput (c:=[116,112,117,116])]<;>first|exact Bool.false_ne_true|decide
 rw[hn];rfl
theorem mB(w:Nat)(hw:w≤7)(ho:ae (aa L i) [40]=true):aJ L w i=tf L i (cP (aa L (i+1)).toList w):=by
 obtain rfl|rfl|rfl|rfl|rfl|rfl|rfl|rfl:w=0∨w=1∨w=2∨w=3∨w=4∨w=5∨w=6∨w=7:=by omega
 ·rfl
 ·exact JX ho
 ·exact JV ho
 ·exact JS ho
 ·exact Ji ho
 ·show aK L (fm L 5 (aU L (aK L i [40]))) [41]=_;rw[ls ho];rfl
 ·show fm L 3 i=_;rw[nK];unfold eG;rw[if_pos ho];rfl
 ·show aK L (fm L 7 (aK L i [40])) [41]=_;rw[ls ho];rfl
end
def jG(t:List Nat × Option Nat):Prop:=(∀p∈t.1,p≤7)∧(t.2=none∨t.2=some 1∨t.2=some 3∨t.2=some 4∨t.2=some 6)
theorem BU{t:List Nat × Option Nat}(h:jG t):jG (gN t):=⟨fun p hp=>h.1 p (List.mem_of_mem_tail hp),h.2⟩
theorem JE{t:List Nat × Option Nat}(h:jG t):br t≤7:=by
 obtain⟨ps,r⟩:=t;cases ps with
 |nil =>
  obtain h2:=h.2;simp only at h2;rcases h2 with rfl|rfl|rfl|rfl|rfl<;>decide
 |cons p ps=>exact h.1 p (by simp)
theorem FD:∀g∈iI,jG (g.2.2.1,g.2.2.2):=by
 intro g hg;unfold iI at hg;simp only[List.mem_cons,List.not_mem_nil,or_false]at hg;rcases hg with rfl|rfl|rfl|rfl|rfl|rfl|rfl|rfl|rfl|rfl|rfl|rfl|rfl|rfl|rfl|rfl|rfl|rfl|rfl|rfl|rfl|rfl|rfl|rfl|rfl|rfl|rfl|rfl|rfl|rfl|rfl|rfl|rfl|rfl<;>exact⟨by decide,by decide⟩
theorem wy{h:List UInt8}{w:Nat}{g:List UInt8 × Nat × List Nat × Option Nat}(hg:cP h w=some g):jG (g.2.2.1,g.2.2.2):=FD g (List.mem_of_find?_eq_some hg)
section
variable {L:af}
noncomputable def l9(L:af)(e:Int)(t:List Nat × Option Nat)(S:List (List Nat × Option Nat)):Int :=
 if e<0 then -1 else match S with
  |[]=>e
  |_::_=>de L e t S
theorem ux{i:Int}{t:List Nat × Option Nat}(ht:jG t)(h0:0≤i)(hout:(L.length:Int)≤i)(hi:i≤(L.length:Int)+1):cC L t i=-1:=by
 have hE:∀w,aJ L w i=-1:=fun w=>by
  have:=oS (L:=L) (i:=i) w (by omega);unfold Ends at this;omega
 have hs:∀c:List UInt8,c≠[]→ae (aa L i) c=false:=fun c hc=>by rw[fZ (by omega)];exact nN c hc
 obtain⟨ps,r⟩:=t;cases ps with
 |cons p ps =>
  show aK L (eH L r (bW L ps (aJ L p i))) [41]=-1;rw[hE,me,pI];exact kN (by decide) (by decide)
 |nil =>
  show aK L (eH L r i) [41]=-1;cases r with
  |none=>exact sM (hs _ (by decide))
  |some p =>
   have hp:p=1∨p=3∨p=4∨p=6:=by
    have:=ht.2;simpa using this
   rw[wQ hp h0 hi (hs _ (by decide)),hE,pI];exact kN (by decide) (by decide)
theorem yB{i:Int}{t:List Nat × Option Nat}(ht:jG t)(hc:ae (aa L i) [41]=true):cC L t i=if cw t then i+1 else -1:=by
 obtain⟨h0,h1⟩:=dH hc;obtain⟨ps,r⟩:=t;cases ps with
 |cons p ps =>
  show aK L (eH L r (bW L ps (aJ L p i))) [41]=-1;rw[sA p hc,me,pI];exact kN (by decide) (by decide)
 |nil =>
  show aK L (eH L r i) [41]=i+1;cases r with
  |none=>exact ls hc
  |some p =>
   have hp:p=1∨p=3∨p=4∨p=6:=by
    have:=ht.2;simpa using this
   rw[CP hp h0 (by omega) hc];exact ls hc
theorem yA{i:Int}{t:List Nat × Option Nat}(ht:jG t)(h0:0≤i)(h1:i<(L.length:Int))(hc:ae (aa L i) [41]=false):cC L t i=cC L (gN t) (aJ L (br t) i):=by
 obtain⟨ps,r⟩:=t;cases ps with
 |cons p ps=>rfl
 |nil =>
  cases r with
  |none =>
   show aK L i [41]=aK L (-1) [41];rw[sM hc,kN (by decide) (by decide)]
  |some p =>
   have hp:p=1∨p=3∨p=4∨p=6:=by
    have:=ht.2;simpa using this
   show aK L (eH L (some p) i) [41]=aK L (eH L (some p) (aJ L p i)) [41];rw[wQ hp h0 (by omega) hc]
theorem Bl:∀n:Nat,(∀i t S,0≤i→i<(L.length:Int)→(L.length:Int)-i<(n:Int)→ae (aa L i) [41]=false→jG t→de L i t S=l9 L (aJ L (br t) i) (gN t) S) ∧
  (∀i t u S,0≤i→i≤(L.length:Int)+1→(L.length:Int)-i<(n:Int)→jG t→de L i t (u::S)=l9 L (cC L t i) u S)
 |0=>by
  refine⟨fun i t S h0 h1 hn=>by omega,fun i t u S h0 h1 hn ht=>?_⟩;rw[pw (by omega),ux ht h0 (by omega) h1];rfl
 |n+1=>by
  obtain⟨_,IC⟩:=Bl n;have part:∀i t S,0≤i→i<(L.length:Int)→(L.length:Int)-i<((n+1:Nat):Int)→ae (aa L i) [41]=false→jG t→de L i t S=l9 L (aJ L (br t) i) (gN t) S:=fun i t S h0 h1 hn hc ht=>by
   cases ho:ae (aa L i) [40]
   ·rw[zH _ ho];cases ha:iu (aa L i) (br t)
    ·rw[Bm h0 h1 hc ho ha];rfl
    ·simp only[if_true];unfold l9;rw[if_neg (by omega)];cases S with
     |nil=>exact Bn h0 h1 hc ho ha
     |cons u S=>exact Bj h0 h1 hc ho ha
   ·rw[mB _ (JE ht) ho];cases hg:cP (aa L (i+1)).toList (br t)with
    |none =>
     rw[Bh h0 h1 hc ho hg];rfl
    |some g =>
     rw[Bo h0 h1 hc ho hg];have hl:=wy hg;show _=l9 L (cC L (g.2.2.1,g.2.2.2) (if g.1.isEmpty then i+1 else i+2)) (gN t) S;split
     ·exact IC _ _ _ _ (by omega) (by omega) (by omega) hl
     ·exact IC _ _ _ _ (by omega) (by omega) (by omega) hl
  refine⟨part,fun i t u S h0 h1 hn ht=>?_⟩;by_cases hin:i<(L.length:Int)
  ·cases hc:ae (aa L i) [41]
   ·rw[part i t (u::S) h0 hin hn hc ht,yA ht h0 hin hc];have hE:=oS (L:=L) (i:=i) (br t) (by omega);generalize aJ L (br t) i=e at hE;unfold Ends at hE;by_cases he:e=-1
    ·subst he;rw[uw];rfl
    ·unfold l9;rw[if_neg (by omega)];exact IC e (gN t) u S (by omega) (by omega) (by omega) (BU ht)
   ·rw[yB ht hc];cases hm:cw t
    ·rw[vT h0 hin hc hm];rfl
    ·simp only[if_true];unfold l9;rw[if_neg (by omega)];cases S with
     |nil=>exact Bk h0 hin hc hm
     |cons v S=>exact Bq h0 hin hc hm
  ·rw[pw (by omega),ux ht h0 (by omega) h1];rfl
theorem IL(w:Nat)(hw:w≤7)(i:Int)(hi:w=1∨w=3):de L i ([w],none) []=aJ L w i:=by
 by_cases hin:0≤i∧i<(L.length:Int)
 ·obtain⟨h0,h1⟩:=hin;cases hc:ae (aa L i) [41]
  ·rw[(Bl (L:=L) (L.length+1)).1 i ([w],none) [] h0 h1 (by omega) hc ⟨fun p hp=>by rw[List.mem_singleton]at hp;omega,Or.inl rfl⟩];show l9 L (aJ L w i) _ []=_;have hE:=oS (L:=L) (i:=i) w (by omega);generalize aJ L w i=e at hE;unfold Ends at hE;unfold l9;split
   ·omega
   ·rfl
  ·rw[vT h0 h1 hc rfl,sA w hc]
 ·rw[pw hin];have hE:Ends L i (aJ L w i):=by
   rcases hi with rfl|rfl
   ·exact(gr L).1 0 i (by decide)
   ·exact(gr L).1 1 i (by decide)
  unfold Ends at hE;omega
end
def aH(L:af)(i:Int):Prop:=fm L 0 i≠-1∨fm L 1 i≠-1
section
variable {L:af} {i j e x:Int}
theorem lF(h:fm L 0 i≠-1):ag L i=fm L 0 i:=by
 rcases (uW L).2.1 0 i (by decide)with hk|hk
 ·exact absurd hk h
 ·exact hk.2
theorem wE(h:fm L 3 i≠-1):ag L i=fm L 3 i:=by
 rcases (uW L).2.1 3 i (by decide)with hk|hk
 ·exact absurd hk h
 ·exact hk.2
theorem wU(h:fm L 2 i≠-1):fm L 1 i=fm L 2 i:=by
 rw[nJ]at h ⊢;rw[ll];unfold dB at h ⊢;split
 ·rename_i ho;rw[if_pos ho]at h;by_cases hd:(bS (aa L (i+1))&&!false)=true
  ·rw[if_pos hd]at h;exact absurd rfl h
  ·rw[if_neg hd,if_neg (by simp)]
 ·rename_i ho;rw[if_neg ho]at h
theorem aH.ends(h:aH L i):0≤i∧i<ag L i∧ag L i≤(L.length:Int):=by
 rcases h with h|h
 ·have hE:=jX (L:=L) 0 (by decide) i;rw[lF h];unfold Ends at hE;omega
 ·have hE:=jX (L:=L) 1 (by decide) i;rw[iS h];unfold Ends at hE;omega
theorem aH.not41(h:aH L i):ae (aa L i) [41]=false:=by
 cases hc:ae (aa L i) [41]
 ·rfl
 ·exfalso;rcases h with h|h
  ·exact h (sA 1 hc)
  ·exact h (sA 3 hc)
theorem jU{w:Nat}(hw:w=1∨w=2∨w=3)(h:aJ L w i≠-1):aH L i∧ag L i=aJ L w i:=by
 rcases hw with rfl|rfl|rfl
 ·exact⟨Or.inl h,lF h⟩
 ·have h2:fm L 2 i≠-1:=h;have h1:=wU h2;exact⟨Or.inr (by rw[h1];exact h2),by rw[iS (by rw[h1];exact h2),h1];rfl⟩
 ·exact⟨Or.inr h,iS h⟩
end
def dd(L:af):Nat→Int→Int→Prop
 |0,i,e=>i=e
 |k+1,i,e=>aH L i∧dd L k (ag L i) e
def ar(L:af):Nat→Int→List Int
 |0,_=>[]
 |k+1,i=>i::ar L k (ag L i)
section
variable {L:af} {i j e x:Int}
theorem eX:∀k i,dd L k i e→0≤e→0≤i∧i+(k:Int)≤e
 |0,i,h,he=>by
  have:i=e:=h;omega
 |k+1,i,h,he=>by
  have h1:=h.1.ends;have h2:=eX k _ h.2 he;omega
theorem yx:∀k m i j,dd L k i j→dd L m j e→dd L (k+m) i e
 |0,m,i,j,h,g=>by
  have:i=j:=h;subst this;rw[Nat.zero_add];exact g
 |k+1,m,i,j,h,g=>by
  rw[show k+1+m=(k+m)+1 by omega];exact⟨h.1,yx k m _ j h.2 g⟩
theorem eK:∀k i,ey L k i e→dd L k i e∧∀p∈ar L k i,fm L 1 p≠-1
 |0,i,h=>⟨h,fun p hp=>by cases hp⟩
 |k+1,i,h=>by
  have h1:=eK k _ h.2;have he:=iS h.1;refine⟨⟨Or.inr h.1,by rw[he];exact h1.1⟩,fun p hp=>?_⟩;rcases List.mem_cons.mp hp with rfl|hp
  ·exact h.1
  ·rw[he]at hp;exact h1.2 p hp
theorem Cu:∀k f i,dd L k i e→0≤e→e≤(L.length:Int)→jj L e→k≤f→jZ L f i=ar L k i
 |0,f,i,h,he,_,hb,hk=>by
  have hi:i=e:=h;subst hi;cases f with
  |zero=>rfl
  |succ f =>
   unfold jZ;rw[if_neg]
   ·rfl
   ·rintro⟨a,b,c⟩;rcases hb with hb|hb
    ·omega
    ·rw[hb]at c;exact absurd c (by decide)
 |k+1,f,i,h,he,hl,hb,hk=>by
  obtain⟨f,rfl⟩:∃g,f=g+1:=⟨f-1,by omega⟩;have h1:=h.1.ends;unfold jZ;rw[if_pos ⟨h1.1,by omega,h.1.not41⟩,Cu k f _ h.2 he hl hb (by omega)];rfl
theorem ef{k:Nat}(h:dd L k i e)(he:0≤e)(hl:e≤(L.length:Int))(hb:jj L e):aT L i=ar L k i:=by
 have h1:=eX k i h he;exact Cu k _ i h he hl hb (by omega)
theorem jz:∀k i,dd L k i e→0≤e→∀p∈ar L k i,i≤p∧p<e∧aH L p∧ag L p≤e
 |0,i,_,_,p,hp=>by cases hp
 |k+1,i,h,he,p,hp=>by
  have h1:=h.1.ends;have h2:=eX k _ h.2 he;rcases List.mem_cons.mp hp with rfl|hp
  ·exact⟨Int.le_refl _,by omega,h.1,by omega⟩
  ·have:=jz k _ h.2 he p hp;exact⟨by omega,this.2⟩
theorem oh:∀(ps:List Nat) (i:Int),(∀p∈ps,p=1∨p=2∨p=3)→bW L ps i≠-1→dd L ps.length i (bW L ps i)
 |[],i,_,_=>rfl
 |p::ps,i,hp,h=>by
  have hne:aJ L p i≠-1:=fun he=>by
   have:bW L (p::ps) i=bW L ps (aJ L p i):=rfl;rw[this,he,me]at h;exact h rfl
  have h1:=jU (hp p (by simp)) hne;refine⟨h1.1,?_⟩;rw[h1.2];exact oh ps _ (fun q hq=>hp q (by simp[hq])) h
theorem CN{p:Nat}(hp:p=1∨p=3):∀n i,aB L i≤n→0≤i→i≤(L.length:Int)+1→eH L (some p) i≠-1→∃k,dd L k i (eH L (some p) i)
 |0,i,hf,h0,h1,_=>by have:=gm (L:=L) h0 h1;omega
 |n+1,i,hf,h0,h1,h=>by
  have hp4:p=1∨p=3∨p=4∨p=6:=by omega
  cases hc:ae (aa L i) [41]
  ·rw[wQ hp4 h0 h1 hc]at h ⊢;have hne:aJ L p i≠-1:=fun he=>by
    rw[he,pI]at h;exact h rfl
   have hE:=oS (L:=L) (i:=i) p (by omega);have hfe:=gV hE h1;have h2:=jU (by omega) hne;unfold Ends at hE;obtain⟨k,hk⟩:=CN hp n (aJ L p i) (by omega) (by omega) (by omega) h;exact⟨k+1,h2.1,by rw[h2.2];exact hk⟩
  ·rw[CP hp4 h0 h1 hc];exact⟨0,rfl⟩
theorem gK{t:List Nat × Option Nat}(h:cC L t i≠-1):cC L t i=eH L t.2 (bW L t.1 i)+1∧0≤eH L t.2 (bW L t.1 i)∧eH L t.2 (bW L t.1 i)<(L.length:Int)∧ae (aa L (eH L t.2 (bW L t.1 i))) [41]=true :=
 gM (by decide) h
theorem aH.form(h:aH L i)(ho:ae (aa L i) [40]=true):∃w g,(w=1∨w=3)∧cP (aa L (i+1)).toList w=some g∧cC L (g.2.2.1,g.2.2.2) (i+2)≠-1∧ag L i=cC L (g.2.2.1,g.2.2.2) (i+2):=by
 have key:∀w,(w=1∨w=3)→aJ L w i≠-1→ag L i=aJ L w i→∃w g,(w=1∨w=3)∧cP (aa L (i+1)).toList w=some g∧cC L (g.2.2.1,g.2.2.2) (i+2)≠-1∧ag L i=cC L (g.2.2.1,g.2.2.2) (i+2):=fun w hw hne hit=>by
  have he:=mB w (by omega) ho;cases hg:cP (aa L (i+1)).toList w with
  |none =>
   rw[hg]at he;exact absurd he hne
  |some g =>
   rw[hg]at he;have hne1:g.1.isEmpty=false:=by
    have hm:=List.mem_of_find?_eq_some hg;have hh:=List.find?_some hg;cases hq:g.1.isEmpty
    ·rfl
    ·exfalso;unfold dF at hh;rw[Bool.and_eq_true]at hh;unfold iI at hm;simp only[List.mem_cons,List.not_mem_nil,or_false]at hm;rcases hm with rfl|rfl|rfl|rfl|rfl|rfl|rfl|rfl|rfl|rfl|rfl|rfl|rfl|rfl|rfl|rfl|rfl|rfl|rfl|rfl|rfl|rfl|rfl|rfl|rfl|rfl|rfl|rfl|rfl|rfl|rfl|rfl|rfl|rfl
     all_goals first|exact absurd hq (by decide)|(rcases hw with rfl|rfl<;>exact absurd hh.1 (by decide))
   have he2:aJ L w i=cC L (g.2.2.1,g.2.2.2) (i+2):=by
    rw[he];show cC L (g.2.2.1,g.2.2.2) (if g.1.isEmpty then i+1 else i+2)=_;rw[hne1];rfl
   exact⟨w,g,hw,hg,by rw[←he2];exact hne,by rw[hit,he2]⟩
 rcases h with h|h
 ·exact key 1 (Or.inl rfl) h (lF h)
 ·exact key 3 (Or.inr rfl) h (iS h)
theorem aH.word(h:aH L i)(ho:ae (aa L i) [40]=true)(c:List UInt8)(t:List Nat × Option Nat)(hc:ae (aa L (i+1)) c=true)(h1:(cP c 1).map (fun g=>(g.2.2.1,g.2.2.2))=some t∨cP c 1=none)(h3:(cP c 3).map (fun g=>(g.2.2.1,g.2.2.2))=some t∨cP c 3=none):cC L t (i+2)≠-1∧ag L i=cC L t (i+2):=by
 obtain⟨w,g,hw,hg,hne,hit⟩:=h.form ho;rw[aZ hc,bE]at hg;have:(g.2.2.1,g.2.2.2)=t:=by
  rcases hw with rfl|rfl
  ·rcases h1 with h1|h1
   ·rw[hg]at h1;exact Option.some.inj h1
   ·rw[hg]at h1;cases h1
  ·rcases h3 with h3|h3
   ·rw[hg]at h3;exact Option.some.inj h3
   ·rw[hg]at h3;cases h3
 rw[this]at hne hit;exact⟨hne,hit⟩
theorem lv(h:aJ L 4 i≠-1):aJ L 4 i=i+1∧aV (aa L i)=true∧0≤i∧i<(L.length:Int):=by
 have:=jF (L:=L) (x:=i) h;exact⟨this.1,this.2.2.2,this.2.1,this.2.2.1⟩
end
def iy(L:af):Nat→Int→Int→Prop
 |0,i,e=>i=e
 |k+1,i,e=>fm L 3 i≠-1∧iy L k (ag L i) e
section
variable {L:af} {i j e x:Int}
theorem rH:∀(n:Nat) (a b:Int),b-a=(n:Int)→0≤a→b≤(L.length:Int)→(∀k,a≤k→k<b→aV (aa L k)=true)→jw L a b
 |0,a,b,hn,h0,hb,_=>by
  have:a=b:=by omega
  subst this;exact tI h0 hb
 |n+1,a,b,hn,h0,hb,h=>by
  have h1:=oB h0 (by omega) (dD (h a (Int.le_refl _) (by omega)));exact h1.trans (rH n (a+1) b (by omega) (by omega) hb fun k k1 k2=>h k (by omega) k2)
theorem aH.OV(h:aH L i)(ho:ae (aa L i) [40]=true)(c:List UInt8)(hc:ae (aa L (i+1)) c=true)(hcs:c=[108,101,116]∨c=[115,101,116]) :
  aV (aa L (i+2))=true∧i+2<(L.length:Int)∧aH L (i+3)∧ag L (i+3)<ag L i:=by
 have hw:cC L ([4,1],none) (i+2)≠-1∧ag L i=cC L ([4,1],none) (i+2):=by
  rcases hcs with rfl|rfl
  ·exact h.word ho _ _ hc (Or.inr rfl) (Or.inl rfl)
  ·exact h.word ho _ _ hc (Or.inr rfl) (Or.inl rfl)
 obtain⟨c1,c2,c3,c4⟩:=gK hw.1;have e1:eH L none (bW L [4,1] (i+2))=aJ L 1 (aJ L 4 (i+2)):=rfl;simp only at c1 c2 c3 c4;rw[e1]at c1 c2 c3 c4;have hn:aJ L 4 (i+2)≠-1:=fun he=>by rw[he,jV]at c2;omega
 have hp:=lv hn;rw[hp.1,show i+2+1=i+3 by omega]at c1 c2 c3 c4;have hs:=jU (L:=L) (i:=i+3) (w:=1) (Or.inl rfl) (by omega);exact⟨hp.2.1,hp.2.2.2,hs.1,by rw[hs.2,hw.2,c1];omega⟩
theorem aH.OY(h:aH L i)(ho:ae (aa L i) [40]=true)(hc:ae (aa L (i+1)) [116,97,107,101]=true) :
  ae (aa L (i+2)) [40]=true∧i+2<ag L (i+2)∧aH L (ag L (i+2))∧ag L (ag L (i+2))<ag L i:=by
 have hd:fm L 1 i≠-1:=by
  rcases h with h|h
  ·exfalso;have:=mB (L:=L) (i:=i) 1 (by decide) ho;rw[aZ hc,bE]at this;exact h this
  ·exact h
 have ht:=mo hd (aZ hc);obtain⟨t1,t2,t3,t4,t5,t6⟩:=ht;have hk:=rH (L:=L) (fm L 5 (i+4)-(i+3)).toNat (i+3) (fm L 5 (i+4)) (by omega) (by have:=(fR hd).1;omega) (by omega) t4;obtain⟨o0,o1⟩:=bF t5;have hit:=(na (i:=i+2) (x:=fm L 5 (i+4)) o0 o1 t5 (by rw[show i+2+1=i+3 by omega];exact hk) t2 t3).2;have hw:=h.word ho _ ([5,1],none) hc (Or.inr rfl) (Or.inl rfl);obtain⟨c1,c2,c3,c4⟩:=gK hw.1;have e1:eH L none (bW L [5,1] (i+2))=aJ L 1 (aJ L 5 (i+2)):=rfl;simp only at c1 c2 c3 c4;rw[e1]at c1 c2 c3 c4;have e2:aJ L 5 (i+2)=fm L 5 (i+4)+1:=by
  show aK L (fm L 5 (aU L (aK L (i+2) [40]))) [41]=_;have hnm:aU L (i+2+1)=i+4:=by
   unfold aU;rw[show i+2+1=i+3 by omega,t4 (i+3) (Int.le_refl _) (by omega)];simp;omega
  rw[ls t5,hnm,ls t3]
 rw[e2,←hit]at c1 c2 c3 c4;have hs:=jU (L:=L) (i:=ag L (i+2)) (w:=1) (Or.inl rfl) (by omega);exact⟨t5,by rw[hit];omega,hs.1,by rw[hs.2,hw.2,c1];omega⟩
theorem aH.OK(h:aH L i)(ho:ae (aa L i) [40]=true)(hc:ae (aa L (i+1)) [100,111]=true):∃k e,ey L k (i+2) e∧ae (aa L e) [41]=true∧ag L i=e+1:=by
 have hw:=h.word ho _ ([],some 3) hc (Or.inr rfl) (Or.inl rfl);obtain⟨c1,c2,c3,c4⟩:=gK hw.1;have e1:eH L (some 3) (bW L [] (i+2))=fm L 6 (i+2):=rfl;simp only at c1 c2 c3 c4;rw[e1]at c1 c2 c3 c4;have h0:=bF ho;obtain⟨a,k,hk⟩:=vU (L:=L) _ (i+2) (Nat.le_refl _) (by omega) (by omega) (by omega);exact⟨k,_,hk,a,by rw[hw.2,c1]⟩
theorem aH.O4(h:aH L i)(ho:ae (aa L i) [40]=true)(hc:ae (aa L (i+1)) [119,104,105,108,101]=true):aH L (i+2)∧aH L (ag L (i+2))∧ag L (ag L (i+2))<ag L i:=by
 have hw:=h.word ho _ ([1,2],none) hc (Or.inr rfl) (Or.inl rfl);obtain⟨c1,c2,c3,c4⟩:=gK hw.1;have d1:cC L ([1,2],none) (i+2)=bW L [1,2] (i+2)+1:=c1;have d2:0≤bW L [1,2] (i+2):=c2;have hch:dd L 2 (i+2) (bW L [1,2] (i+2)):=oh [1,2] (i+2) (by decide) (by omega);generalize bW L [1,2] (i+2)=z at d1 d2 hch;obtain⟨p1,p2,p3⟩:=hch;have p4:ag L (ag L (i+2))=z:=p3;exact⟨p1,p2,by rw[p4,hw.2,d1];omega⟩
theorem aH.OZ(h:aH L i)(ho:ae (aa L i) [40]=true)(hc:ae (aa L (i+1)) [102,111,114]=true):aV (aa L (i+2))=true∧i+2<(L.length:Int)∧aH L (i+3)∧aH L (ag L (i+3))∧aH L (ag L (ag L (i+3)))∧ag L (ag L (ag L (i+3)))<ag L i:=by
 have hw:=h.word ho _ ([4,1,1,2],none) hc (Or.inr rfl) (Or.inl rfl);obtain⟨c1,c2,c3,c4⟩:=gK hw.1;have d1:cC L ([4,1,1,2],none) (i+2)=bW L [1,1,2] (aJ L 4 (i+2))+1:=c1;have d2:0≤bW L [1,1,2] (aJ L 4 (i+2)):=c2;have hn:aJ L 4 (i+2)≠-1:=fun he=>by rw[he,me]at d2;omega
 have hp:=lv hn;rw[hp.1,show i+2+1=i+3 by omega]at d1 d2;have hch:dd L 3 (i+3) (bW L [1,1,2] (i+3)):=oh [1,1,2] (i+3) (by decide) (by omega);generalize bW L [1,1,2] (i+3)=z at d1 d2 hch;obtain⟨p1,p2,p3,p4⟩:=hch;have p5:ag L (ag L (ag L (i+3)))=z:=p4;exact⟨hp.2.1,hp.2.2.2,p1,p2,p3,by rw[p5,hw.2,d1];omega⟩
theorem aH.OQ(h:aH L i)(ho:ae (aa L i) [40]=true)(c:List UInt8)(hc:ae (aa L (i+1)) c=true)(hcs:c=[104,103,101,116]∨c=[104,112,117,116]) :
  i+2<(L.length:Int)∧aV (aa L (i+2))=true∧∃k e,dd L k (i+3) e∧ae (aa L e) [41]=true∧ag L i=e+1:=by
 have key:∀ps:List Nat,(∀p∈ps,p=1∨p=2∨p=3)→cC L (4::ps,none) (i+2)≠-1∧ag L i=cC L (4::ps,none) (i+2)→i+2<(L.length:Int)∧aV (aa L (i+2))=true∧∃k e,dd L k (i+3) e∧ae (aa L e) [41]=true∧ag L i=e+1:=fun ps hps hw=>by
  obtain⟨c1,c2,c3,c4⟩:=gK hw.1;have e1:eH L none (bW L (4::ps) (i+2))=bW L ps (aJ L 4 (i+2)):=rfl;simp only at c1 c2 c3 c4;rw[e1]at c1 c2 c3 c4;have hn:aJ L 4 (i+2)≠-1:=fun he=>by rw[he,me]at c2;omega
  have hp:=lv hn;rw[hp.1,show i+2+1=i+3 by omega]at c1 c2 c3 c4;exact⟨hp.2.2.2,hp.2.1,ps.length,_,oh ps (i+3) hps (by omega),c4,by rw[hw.2,c1]⟩
 rcases hcs with rfl|rfl
 ·exact key [1] (by decide) (h.word ho _ _ hc (Or.inl rfl) (Or.inr rfl))
 ·exact key [1,1] (by decide) (h.word ho _ _ hc (Or.inr rfl) (Or.inl rfl))
theorem aH.items(h:aH L i)(ho:ae (aa L i) [40]=true)(hfn:ae (aa L (i+1)) [102,110]=false)(hdo:ae (aa L (i+1)) [100,111]=false)(hlet:ae (aa L (i+1)) [108,101,116]=false)(hset:ae (aa L (i+1)) [115,101,116]=false)(htake:ae (aa L (i+1)) [116,97,107,101]=false)
  (hhget:ae (aa L (i+1)) [104,103,101,116]=false) (hhput:ae (aa L (i+1)) [104,112,117,116]=false) (hhid:ae (aa L (i+1)) [104,105,100,100,101,110]=false) (hvars:ae (aa L (i+1)) [118,97,114,115]=false) (hfor:ae (aa L (i+1)) [102,111,114]=false) :
  ∃k e,dd L k (i+2) e∧ae (aa L e) [41]=true∧ag L i=e+1:=by
 obtain⟨w,g,hw,hg,hne,hit⟩:=h.form ho;have h0:=bF ho;have hm:=List.mem_of_find?_eq_some hg;have hh:=List.find?_some hg;obtain⟨c1,c2,c3,c4⟩:=gK hne;have key:(∀p∈g.2.2.1,p=1∨p=2∨p=3)→(g.2.2.2=none∨g.2.2.2=some 1)→∃k e,dd L k (i+2) e∧ae (aa L e) [41]=true∧ag L i=e+1:=fun hps hr=>by
  simp only at c1 c2 c3 c4;have hpn:bW L g.2.2.1 (i+2)≠-1:=fun he=>by rw[he,pI]at c2;omega
  have hc1:=oh g.2.2.1 (i+2) hps hpn;rw[c1]at hit;rcases hr with hr|hr
  ·rw[hr]at hit c2 c3 c4;exact⟨_,_,hc1,c4,hit⟩
  ·rw[hr]at hit c2 c3 c4;have hpl:0≤bW L g.2.2.1 (i+2)∧bW L g.2.2.1 (i+2)≤(L.length:Int)+1:=by
    cases hq:g.2.2.1 with
    |nil =>
     show 0≤i+2∧i+2≤(L.length:Int)+1;omega
    |cons p ps =>
     rw[←hq];have h4:∀(qs:List Nat) (y:Int),-1≤y→bW L qs y≠-1→qs≠[]→0≤bW L qs y∧bW L qs y≤(L.length:Int)+1:=fun qs=>by
      induction qs with
      |nil=>exact fun y _ _ h=>absurd rfl h
      |cons q qs ih =>
       intro y hy hne _;have hE:=oS (L:=L) (i:=y) q hy;unfold Ends at hE;show 0≤bW L qs (aJ L q y)∧bW L qs (aJ L q y)≤(L.length:Int)+1;have hne2:bW L qs (aJ L q y)≠-1:=hne;have hq2:aJ L q y≠-1:=fun he=>by rw[he,me]at hne2;exact hne2 rfl
       by_cases hz:qs=[]
       ·subst hz;show 0≤aJ L q y∧aJ L q y≤(L.length:Int)+1;omega
       ·exact ih _ (by omega) hne2 hz
     exact h4 _ _ (by omega) hpn (by rw[hq];simp)
   obtain⟨k,hk⟩:=CN (p:=1) (Or.inl rfl) _ _ (Nat.le_refl _) hpl.1 hpl.2 (by omega);exact⟨_,_,yx _ _ _ _ hc1 hk,c4,hit⟩
 unfold dF at hh;rw[Bool.and_eq_true]at hh;have hh2:=hh.2;unfold ae at hfn hdo hlet hset htake hhget hhput hhid hvars hfor;unfold iI at hm;simp only[List.mem_cons,List.not_mem_nil,or_false]at hm;clear hg hne hit c1 c2 c3 c4;rcases hm with rfl|rfl|rfl|rfl|rfl|rfl|rfl|rfl|rfl|rfl|rfl|rfl|rfl|rfl|rfl|rfl|rfl|rfl|rfl|rfl|rfl|rfl|rfl|rfl|rfl|rfl|rfl|rfl|rfl|rfl|rfl|rfl|rfl|rfl
 all_goals first
  |exact key (by decide) (by decide)
  |(exfalso;rcases hw with rfl|rfl<;>exact absurd hh.1 (by decide))
  |(exfalso;simp only[List.isEmpty,Bool.false_or,beq_iff_eq]at hh2;rw[←hh2]at hfn hdo hlet hset htake hhget hhput hhid hvars hfor;first|exact absurd hfn (by decide)|exact absurd hdo (by decide)|exact absurd hlet (by decide)|exact absurd hset (by decide)|exact absurd htake (by decide)|exact absurd hhget (by decide)|exact absurd hhput (by decide)|exact absurd hhid (by decide)|exact absurd hvars (by decide)|exact absurd hfor (by decide))
theorem Br:∀n i,aB L i≤n→0≤i→i≤(L.length:Int)+1→fm L 7 i≠-1→ae (aa L (fm L 7 i)) [41]=true∧∃k,iy L k i (fm L 7 i)
 |0,i,hf,h0,h1,_=>by have:=gm (L:=L) h0 h1;omega
 |n+1,i,hf,h0,h1,h=>by
  have hm:=jB (L:=L) (i:=i) 3 (by decide) (by omega) h1;rw[show 4+3=7 from rfl]at hm;unfold eC at hm;split at hm
  ·rename_i hs;rw[hm];rcases hs with hs|hs
   ·omega
   ·exact⟨hs,0,rfl⟩
  ·have ho:fX L (fm L) 3 i=fm L 3 i:=rfl;rw[ho,show 4+3=7 from rfl]at hm;have hne:fm L 3 i≠-1:=fun hn=>by
    rw[hm,hn,gu 7 (by decide)]at h;exact absurd rfl h
   have hE:=jX (L:=L) 3 (by decide) i;have hfe:=gV hE h1;unfold Ends at hE;rw[hm]at h ⊢;obtain⟨a,k,hk⟩:=Br n (fm L 3 i) (by omega) (by omega) (by omega) h;exact⟨a,k+1,hne,by rw[wE hne];exact hk⟩
theorem jY(h:fm L 3 i≠-1):0≤i∧i<(L.length:Int)∧((ae (aa L i) [40]=true∧aV (aa L (i+1))=true∧i+1<(L.length:Int)∧aH L (i+2)∧ag L i=ag L (i+2)+1)∨(ae (aa L i) [40]=false∧aV (aa L i)=true∧ag L i=i+1)):=by
 have hit:=wE h;rw[nK]at h hit;unfold eG at h hit;cases ho:ae (aa L i) [40]
 ·rw[ho]at h hit;obtain⟨a,b,c,d⟩:=jF (L:=L) (x:=i) h;exact⟨b,c,Or.inr ⟨rfl,d,by rw[hit];exact a⟩⟩
 ·rw[ho]at h hit;simp only[if_true]at h hit;obtain⟨h0,h1⟩:=bF ho;obtain⟨a,b,c,d⟩:=gM (by decide) h;have hn:aU L (i+1)≠-1:=fun he=>by rw[he,gu 0 (by decide)]at b;omega
  obtain⟨n1,n2,n3,n4⟩:=jF hn;rw[n1,show i+1+1=i+2 by omega]at a b c d hit;have hs:fm L 0 (i+2)≠-1:=by omega
  exact⟨h0,h1,Or.inl ⟨rfl,n4,n3,Or.inl hs,by rw[hit,a,lF hs]⟩⟩
theorem rh(h:fm L 3 i≠-1):ae (aa L i) [41]=false:=by
 rcases (jY h).2.2 with h1|h1
 ·exact aQ h1.1 (by decide)
 ·exact(dD h1.2.1).2
theorem lx(h:fm L 3 i≠-1):0≤i∧i<ag L i∧ag L i≤(L.length:Int):=by
 have hE:=jX (L:=L) 3 (by decide) i;rw[wE h];unfold Ends at hE;omega
theorem gJ:∀k i,iy L k i e→0≤e→0≤i∧i+(k:Int)≤e
 |0,i,h,he=>by
  have:i=e:=h;omega
 |k+1,i,h,he=>by
  have h1:=lx h.1;have h2:=gJ k _ h.2 he;omega
theorem Cv:∀k f i,iy L k i e→0≤e→e<(L.length:Int)→ae (aa L e) [41]=true→k≤f→jZ L f i=ar L k i
 |0,f,i,h,he,_,hb,hk=>by
  have hi:i=e:=h;subst hi;cases f with
  |zero=>rfl
  |succ f =>
   unfold jZ;rw[if_neg]
   ·rfl
   ·rintro⟨a,b,c⟩;rw[hb]at c;exact absurd c (by decide)
 |k+1,f,i,h,he,hl,hb,hk=>by
  obtain⟨f,rfl⟩:∃g,f=g+1:=⟨f-1,by omega⟩;have h1:=lx h.1;unfold jZ;rw[if_pos ⟨h1.1,by omega,rh h.1⟩,Cv k f _ h.2 he hl hb (by omega)];rfl
theorem rp{k:Nat}(h:iy L k i e)(he:0≤e)(hl:e<(L.length:Int))(hb:ae (aa L e) [41]=true):aT L i=ar L k i:=by
 have h1:=gJ k i h he;exact Cv k _ i h he hl hb (by omega)
theorem aH.fn(h:aH L i)(ho:ae (aa L i) [40]=true)(hc:ae (aa L (i+1)) [102,110]=true) :
  ae (aa L (i+2)) [40]=true∧∃k e7 m e6,iy L k (i+3) e7∧0≤e7∧e7<(L.length:Int)∧ae (aa L e7) [41]=true∧jR L i=e7+1∧ey L m (e7+1) e6∧0≤e6∧e6<(L.length:Int)∧ae (aa L e6) [41]=true∧ag L i=e6+1:=by
 have hw:=h.word ho _ ([7],some 3) hc (Or.inl rfl) (Or.inr rfl);obtain⟨c1,c2,c3,c4⟩:=gK hw.1;have e1:eH L (some 3) (bW L [7] (i+2))=fm L 6 (aK L (fm L 7 (aK L (i+2) [40])) [41]):=rfl;simp only at c1 c2 c3 c4;rw[e1]at c1 c2 c3 c4;have h0:=bF ho;have hp:aK L (fm L 7 (aK L (i+2) [40])) [41]≠-1:=fun he=>by rw[he,gu 6 (by decide)]at c2;omega
 obtain⟨p1,p2,p3,p4⟩:=gM (by decide) hp;have hq:aK L (i+2) [40]≠-1:=fun he=>by rw[he,gu 7 (by decide)]at p2;omega
 obtain⟨q1,q2,q3,q4⟩:=gM (by decide) hq;rw[q1,show i+2+1=i+3 by omega]at p1 p2 p3 p4;rw[q1,show i+2+1=i+3 by omega,p1]at c1 c2 c3 c4;obtain⟨a,k,hk⟩:=Br (L:=L) _ (i+3) (Nat.le_refl _) (by omega) (by omega) (by omega);obtain⟨b,m,hm⟩:=vU (L:=L) _ (fm L 7 (i+3)+1) (Nat.le_refl _) (by omega) (by omega) (by omega);exact⟨q4,k,_,m,_,hk,p2,p3,a,rfl,hm,c2,c3,c4,by rw[hw.2,c1]⟩
end
def fy(o:Ot)(m:Int):Prop:=(o.fr.length:Int)≤m∧(o.sc.length:Int)≤m
theorem lf{m:Int}(h:0≤m):fy Ot.none m:=⟨by simpa[Ot.none]using h,by simpa[Ot.none]using h⟩
theorem r9{m:Int}(b:Bool)(h:0≤m):fy ⟨[],[],b⟩ m:=⟨by simpa using h,by simpa using h⟩
theorem km{a b:Ot}{m n:Int}(ha:fy a m)(hb:fy b n):fy (a.add b) (m+n):=by
 unfold fy at ha hb ⊢;simp only[Ot.add,List.length_append];omega
theorem fy.mono{a:Ot}{m n:Int}(h:fy a m)(hmn:m≤n):fy a n:=by
 unfold fy at h ⊢;omega
theorem yv(K:Kn)(s:ByteArray):fy (df K s) 1:=by
 unfold df;split
 ·exact lf (by decide)
 ·exact⟨by simp,by simp⟩
theorem Ej(K:Kn)(s:ByteArray):fy (dw K s) 1:=by
 unfold dw;split
 ·exact lf (by decide)
 ·exact⟨by simp,by simp⟩
section
variable {L:af} {i e:Int}
theorem ur(f:Int→Ot):∀k i,dd L k i e→0≤e→(∀p,aH L p→i≤p→fy (f p) (ag L p-p))→fy (aW f (ar L k i)) (e-i)
 |0,i,h,he,_=>by
  have:i=e:=h;exact lf (by omega)
 |k+1,i,h,he,hf=>by
  have h1:=h.1.ends;have h2:=ur f k _ h.2 he (fun p hp hl=>hf p hp (by omega));exact(km (hf i h.1 (Int.le_refl _)) h2).mono (by omega)
theorem yu(f:Int→Ot):∀k i,iy L k i e→0≤e→(∀p,aH L p→i≤p→fy (f p) (ag L p-p))→fy (aW (eE L f) (ar L k i)) (e-i)
 |0,i,h,he,_=>by
  have:i=e:=h;exact lf (by omega)
 |k+1,i,h,he,hf=>by
  have h1:=lx h.1;have h2:=yu f k _ h.2 he (fun p hp hl=>hf p hp (by omega));refine(km (m:=ag L i-i) ?_ h2).mono (by omega);unfold eE;rcases (jY h.1).2.2 with h3|h3
  ·rw[if_pos h3.1];exact(hf (i+2) h3.2.2.2.1 (by omega)).mono (by omega)
  ·rw[if_neg (by rw[h3.1];decide)];exact lf (by omega)
theorem yt(f:Int→Ot):∀k i v,dd L k i e→0≤e→(∀p,aH L p→i≤p→fy (f p) (ag L p-p))→fy (iQ L f v (ar L k i)) (e-i)
 |0,i,v,h,he,_=>by
  have:i=e:=h;exact lf (by omega)
 |k+1,i,v,h,he,hf=>by
  have h1:=h.1.ends;have h2:=yt f k _ false h.2 he (fun p hp hl=>hf p hp (by omega));exact(km (r9 _ (Int.le_refl 0)) (km (hf i h.1 (Int.le_refl _)) h2)).mono (by omega)
theorem bP(h:ae (aa L e) [41]=true):jj L e:=Or.inr h
end
theorem DG(L:af):∀n,(∀i K v,aH L i→fy (wk L n 0 v i K) (ag L i-i))∧(∀i K v k e,ey L k i e→jj L e→0≤e→e≤(L.length:Int)→fy (wk L n 1 v i K) (e-i))
 |0=>⟨fun i K v h=>lf (by have:=h.ends;omega),fun i K v k e h hb h0 h1=>lf (by have:=gU k i h h0;omega)⟩
 |n+1=>by
  obtain⟨I0,I1⟩:=DG L n;have B1:∀i K v k e,ey L k i e→jj L e→0≤e→e≤(L.length:Int)→fy (wk L (n+1) 1 v i K) (e-i):=fun i K v k e h hb h0 h1=>by
   show fy (jQ L (wk L n) v i K) (e-i);have hv:=(eK k i h).1;unfold jQ;rw[ef hv h0 h1 hb];exact(km (r9 _ (Int.le_refl 0)) (yt _ k i v hv h0 (fun p hp _=>I0 p _ false hp))).mono (by omega)
  refine⟨fun i K v h=>?_,B1⟩;show fy (cH L (wk L n) i K) (ag L i-i);have hE:=h.ends;unfold cH;cases ho:ae (aa L i) [40]
  ·rw[if_pos rfl];split
   ·exact(yv _ _).mono (by omega)
   ·exact lf (by omega)
  rw[if_neg (by decide)];by_cases hfn:ae (aa L (i+1)) [102,110]=true
  ·rw[if_pos hfn];obtain⟨_,k,e7,m,e6,q1,q2,q3,q4,q5,q6,q7,q8,q9,q10⟩:=h.fn ho hfn;have qe:=gJ k _ q1 q2;have he:=gU m _ q6 q7;unfold fD;rw[q5,rp q1 q2 q3 q4];refine(km (r9 _ (Int.le_refl 0)) (km (yu _ k _ q1 q2 (fun p hp _=>I0 p _ false hp)) (I1 _ _ _ m e6 q6 (bP q9) q7 (by omega)))).mono (by omega)
  rw[if_neg hfn];by_cases hdo:ae (aa L (i+1)) [100,111]=true
  ·rw[if_pos hdo];obtain⟨k,e,q1,q2,q3⟩:=h.OK ho hdo;have he:=dH q2;exact(I1 _ _ _ k e q1 (bP q2) he.1 (by omega)).mono (by omega)
  rw[if_neg hdo];by_cases hlet:ae (aa L (i+1)) [108,101,116]=true
  ·rw[if_pos hlet];have hq:=h.OV ho _ hlet (Or.inl rfl);exact(I0 _ _ _ hq.2.2.1).mono (by omega)
  rw[if_neg hlet];by_cases hset:ae (aa L (i+1)) [115,101,116]=true
  ·rw[if_pos hset];have hq:=h.OV ho _ hset (Or.inr rfl);exact(km (yv _ _) (I0 _ _ _ hq.2.2.1)).mono (by omega)
  rw[if_neg hset];by_cases htake:ae (aa L (i+1)) [116,97,107,101]=true
  ·rw[if_pos htake];have hq:=h.OY ho htake;exact(I0 _ _ _ hq.2.2.1).mono (by omega)
  rw[if_neg htake];by_cases hh:(ae (aa L (i+1)) [104,103,101,116]||ae (aa L (i+1)) [104,112,117,116])=true
  ·rw[if_pos hh];have hq:i+2<(L.length:Int)∧aV (aa L (i+2))=true∧∃k e,dd L k (i+3) e∧ae (aa L e) [41]=true∧ag L i=e+1:=by
    rcases Bool.or_eq_true _ _ |>.mp hh with hx|hx
    ·exact h.OQ ho _ hx (Or.inl rfl)
    ·exact h.OQ ho _ hx (Or.inr rfl)
   obtain⟨_,_,k,e,q1,q2,q3⟩:=hq;have he:=dH q2;rw[ef q1 he.1 (by omega) (bP q2)];exact(km (Ej _ _) (ur _ k _ q1 he.1 (fun p hp _=>I0 p _ false hp))).mono (by omega)
  rw[if_neg hh];by_cases hv:(ae (aa L (i+1)) [104,105,100,100,101,110]||ae (aa L (i+1)) [118,97,114,115])=true
  ·rw[if_pos hv];exact lf (by omega)
  rw[if_neg hv];by_cases hl:(ae (aa L (i+1)) [108,101,97,118,101]||ae (aa L (i+1)) [110,101,120,116])=true
  ·rw[if_pos hl];exact r9 _ (by omega)
  rw[if_neg hl];by_cases hwh:ae (aa L (i+1)) [119,104,105,108,101]=true
  ·rw[if_pos hwh];have hq:=h.O4 ho hwh;have e1:=hq.1.ends;exact(km (I0 _ _ _ hq.1) (I0 _ _ _ hq.2.1)).mono (by omega)
  rw[if_neg hwh];by_cases hfor:ae (aa L (i+1)) [102,111,114]=true
  ·rw[if_pos hfor];have hq:=h.OZ ho hfor;have e1:=hq.2.2.1.ends;have e2:=hq.2.2.2.1.ends;exact(km (I0 _ _ _ hq.2.2.1) (km (I0 _ _ _ hq.2.2.2.1) (I0 _ _ _ hq.2.2.2.2.1))).mono (by omega)
  rw[if_neg hfor];simp only[Bool.or_eq_true,not_or,Bool.not_eq_true]at hfn hdo hlet hset htake hh hv hl hwh hfor;obtain⟨k,e,q1,q2,q3⟩:=h.items ho hfn hdo hlet hset htake hh.1 hh.2 hv.1 hv.2 hfor;have he:=dH q2;rw[ef q1 he.1 (by omega) (bP q2)];exact(ur _ k _ q1 he.1 (fun p hp _=>I0 p _ false hp)).mono (by omega)
theorem Fm{L:af}(h:aR L=true):fy (eO L) (L.length:Int):=by
 obtain⟨k,hk⟩:=mX h;exact((DG L _).2 0 _ true k _ hk (Or.inl rfl) (by omega) (Int.le_refl _)).mono (by omega)
def eu(s:ByteArray)(o:Int):Int:=if ae s [40]then o+1 else if ae s [41]then o-1 else o
def dX(L:af):Nat→Nat→Int→List (Int × Int)
 |0,_,_=>[]
 |f+1,i,o=>if i<L.length∧bT (L.getD i ⟨#[]⟩)=true∧0≤eu (L.getD i ⟨#[]⟩) o then((i:Int),eu (L.getD i ⟨#[]⟩) o)::dX L f (i+1) (eu (L.getD i ⟨#[]⟩) o)else []
def ko:List (Int × Int)→Int→Int × Int
 |[],_=>(-1,-1)
 |x::xs,d=>if x.2=0 then(x.1+1,max d x.2)else ko xs (max d x.2)
def gY(xs:List (Int × Int))(d:Int):Int:=xs.foldl (fun d x=>max d x.2) d
theorem BF(xs:List (Int × Int))(x:Int × Int)(d:Int):gY (xs++[x]) d=max (gY xs d) x.2:=by
 unfold gY;rw[List.foldl_append];rfl
theorem uS:∀(xs ys:List (Int × Int)) (d:Int),(∀x∈xs,x.2≠0)→ko (xs++ys) d=ko ys (gY xs d)
 |[],_,_,_=>rfl
 |x::xs,ys,d,h=>by
  show(if x.2=0 then(x.1+1,max d x.2)else ko (xs++ys) (max d x.2))=_;rw[if_neg (h x (by simp)),uS xs ys _ fun y hy=>h y (by simp[hy])];rfl
def gX(L:af)(i:Int):Int × Int:=if i<0 then(-1,-1)else ko (dX L (L.length+1) i.toNat 0) 0
theorem rC{L:af}{f i:Nat}{o:Int}(h:¬(i<L.length∧bT (L.getD i ⟨#[]⟩)=true∧0≤eu (L.getD i ⟨#[]⟩) o)):dX L f i o=[]:=by
 cases f with
 |zero=>rfl
 |succ f =>
  unfold dX;rw[if_neg h]
theorem mZ{L:af}{f i:Nat}{o:Int}(h:i<L.length∧bT (L.getD i ⟨#[]⟩)=true∧0≤eu (L.getD i ⟨#[]⟩) o):dX L (f+1) i o=((i:Int),eu (L.getD i ⟨#[]⟩) o)::dX L f (i+1) (eu (L.getD i ⟨#[]⟩) o):=by
 show(if _ then _ else _)=_;rw[if_pos h]
theorem tF(L:af):∀f i o,(dX L f i o).length≤L.length-i
 |0,_,_=>Nat.zero_le _
 |f+1,i,o=>by
  by_cases h:i<L.length∧bT (L.getD i ⟨#[]⟩)=true∧0≤eu (L.getD i ⟨#[]⟩) o
  ·rw[mZ h];have:=tF L f (i+1) (eu (L.getD i ⟨#[]⟩) o);simp only[List.length_cons];omega
  ·rw[rC h];exact Nat.zero_le _
theorem zN(L:af):∀(f:Nat) (i o:Nat) (d e:Int),cU L f i o=e→0≤e→(∀k,i≤k→(k:Int)<e→bT (L.getD k ⟨#[]⟩)=true)→0≤d→(o:Int)≤d→ko (dX L f i (o:Int)) d=(e,lS L (e-(i:Int)).toNat i (o:Int) d)
 |0,i,o,d,e,h,he,_,_,_=>by
  have:(-1:Int)=e:=h;omega
 |f+1,i,o,d,e,h,he,hs,hd,hod=>by
  have hends:=qO L (f+1) i o;rw[h]at hends;have hie:(i:Int)<e:=by omega
  have hil:i<L.length:=by omega
  have hsi:=hs i (Nat.le_refl _) hie;have hstep:(e-(i:Int)).toNat=(e-((i+1:Nat):Int)).toNat+1:=by omega
  have hs':∀k,i+1≤k→(k:Int)<e→bT (L.getD k ⟨#[]⟩)=true:=fun k h1 h2=>hs k (by omega) h2
  have IH:=zN L f (i+1);unfold cU at h;rw[if_pos hil]at h;rw[hstep];unfold lS;cases h40:ae (L.getD i ⟨#[]⟩) [40]
  ·rw[h40]at h;cases h41:ae (L.getD i ⟨#[]⟩) [41]
   ·rw[h41]at h;have hop:eu (L.getD i ⟨#[]⟩) (o:Int)=(o:Int):=by unfold eu;rw[h40,h41];rfl
    rw[mZ ⟨hil,hsi,by rw[hop];omega⟩,hop];simp only[ko];simp only[Bool.false_eq_true,if_false]at h ⊢;have hmx:max d (o:Int)=d:=by omega
    rw[hmx];by_cases ho:o=0
    ·rw[if_pos ho]at h;rw[if_pos (by omega),show(e-((i+1:Nat):Int)).toNat=0 by omega];rw[h];rfl
    ·rw[if_neg ho]at h;rw[if_neg (by omega)];exact IH o d e h he hs' hd hod
   ·rw[h41]at h;have hop:eu (L.getD i ⟨#[]⟩) (o:Int)=(o:Int)-1:=by unfold eu;rw[h40,h41];rfl
    simp only[Bool.false_eq_true,if_false,if_true]at h ⊢;by_cases ho:o=0
    ·rw[if_pos ho]at h;omega
    ·rw[if_neg ho]at h;rw[mZ ⟨hil,hsi,by rw[hop];omega⟩,hop];simp only[ko];have hmx:max d ((o:Int)-1)=d:=by omega
     rw[hmx];by_cases ho1:o=1
     ·rw[if_pos ho1]at h;rw[if_pos (by omega),show(e-((i+1:Nat):Int)).toNat=0 by omega];rw[h];rfl
     ·rw[if_neg ho1]at h;rw[if_neg (by omega)];have hc:((o-1:Nat):Int)=(o:Int)-1:=by omega
      have:=IH (o-1) d e h he hs' hd (by omega);rw[hc]at this;exact this
  ·rw[h40]at h;have hop:eu (L.getD i ⟨#[]⟩) (o:Int)=(o:Int)+1:=by unfold eu;rw[h40];rfl
   rw[mZ ⟨hil,hsi,by rw[hop];omega⟩,hop];simp only[ko];simp only[if_true]at h ⊢;rw[if_neg (by omega)];have hc:((o+1:Nat):Int)=(o:Int)+1:=by omega
   have:=IH (o+1) (max d ((o:Int)+1)) e h he hs' (by omega) (by omega);rw[hc]at this;exact this
theorem By{L:af}{i:Int}(h:0≤ag L i)(hs:∀k,i≤k→k<ag L i→bT (aa L k)=true):gX L i=(ag L i,eA L i):=by
 have hE:=ph L i;unfold Ends at hE;have h0:¬i<0:=by omega
 unfold gX eA;rw[if_neg h0,if_neg (by omega)];have he:cU L (L.length+1) i.toNat 0=ag L i:=by unfold ag;rw[if_neg h0]
 have:=zN L (L.length+1) i.toNat 0 0 (ag L i) he h (fun k h1 h2=>by
  have hk:=hs (k:Int) (by omega) h2;rw[eT (by omega) (by omega)]at hk;have hkl:k<L.length:=by omega
  simpa[List.getD,hkl]using hk) (by omega) (by omega)
 rw[show((i.toNat:Nat):Int)=i by omega]at this;exact this
def bd(L:af):Nat→Int→Int→Prop
 |0,i,e=>i=e
 |k+1,i,e=>0≤ag L i∧bd L k (ag L i) e
section
variable {L:af} {i j e x:Int}
theorem eo(h:i<0∨(L.length:Int)≤i∨ae (aa L i) [41]=true):ag L i=-1:=by
 unfold ag;split
 ·rfl
 ·rename_i h0;unfold cU;by_cases hl:i.toNat<L.length
  ·rw[if_pos hl,pL (by omega) (by omega)];have h41:ae (aa L i) [41]=true:=by
    rcases h with h|h|h
    ·omega
    ·omega
    ·exact h
   rw[aQ h41 (by decide),h41];rfl
  ·rw[if_neg hl]
theorem cZ(h:0≤ag L i):0≤i∧i<ag L i∧ag L i≤(L.length:Int):=by
 have:=ph L i;unfold Ends at this;omega
theorem bK:∀k i,bd L k i e→0≤e→0≤i∧i+(k:Int)≤e
 |0,i,h,he=>by
  have:i=e:=h;omega
 |k+1,i,h,he=>by
  have h1:=bK k _ h.2 he;have h2:=cZ h.1;omega
theorem gk{k:Nat}(h:bd L k i e)(hlt:i<e):∃m,k=m+1∧0≤ag L i∧bd L m (ag L i) e:=by
 cases k with
 |zero =>
  have:i=e:=h;omega
 |succ m=>exact⟨m,rfl,h.1,h.2⟩
theorem jh:∀k m i,bd L k i e→bd L m i x→ag L e=-1→ag L x=-1→k=m∧e=x
 |0,0,i,h1,h2,_,_=>⟨rfl,(h1:i=e).symm.trans h2⟩
 |0,m+1,i,h1,h2,he,_=>by
  have e1:i=e:=h1;have:=h2.1;rw[e1,he]at this;omega
 |k+1,0,i,h1,h2,_,hx=>by
  have e1:i=x:=h2;have:=h1.1;rw[e1,hx]at this;omega
 |k+1,m+1,i,h1,h2,he,hx=>by
  obtain⟨a,b⟩:=jh k m _ h1.2 h2.2 he hx;exact⟨by rw[a],b⟩
theorem iv:∀k i,dd L k i e→bd L k i e
 |0,_,h=>h
 |k+1,i,h=>⟨by have:=h.1.ends;omega,iv k _ h.2⟩
theorem qd:∀k i,iy L k i e→bd L k i e
 |0,_,h=>h
 |k+1,i,h=>⟨by have:=lx h.1;omega,qd k _ h.2⟩
theorem lP:∀(n:Nat) (i:Int),0≤i→i+(n:Int)≤(L.length:Int)→(∀k,i≤k→k<i+(n:Int)→aV (aa L k)=true)→bd L n i (i+(n:Int))∧(ar L n i).map (aa L)=dN L i (i+(n:Int))∧∀p∈ar L n i,i≤p∧p<i+(n:Int)
 |0,i,_,_,_=>⟨by show i=i+((0:Nat):Int);omega,by rw[show i+((0:Nat):Int)=i by omega,C8];rfl,fun p hp=>by cases hp⟩
 |n+1,i,h0,h1,hn=>by
  have hit:ag L i=i+1:=gw h0 (by omega) (dD (hn i (Int.le_refl _) (by omega)));obtain⟨a,b,c⟩:=lP n (i+1) (by omega) (by omega) (fun k h2 h3=>hn k (by omega) (by omega));have he:i+1+(n:Int)=i+((n+1:Nat):Int):=by omega
  rw[he]at a b c;have hP:ar L (n+1) i=i::ar L n (i+1):=by
   show i::ar L n (ag L i)=_;rw[hit]
  refine⟨⟨by omega,by rw[hit];exact a⟩,?_,fun p hp=>?_⟩
  ·rw[hP,List.map_cons,b];unfold dN;have hl:i.toNat<L.length:=by omega
   rw[List.drop_eq_getElem_cons hl,eT h0 (by omega),show(i+1).toNat=i.toNat+1 by omega,show(i+((n+1:Nat):Int)-i).toNat=n+1 by omega,show(i+((n+1:Nat):Int)-(i+1)).toNat=n by omega,List.take_succ_cons]
  ·rw[hP]at hp;rcases List.mem_cons.mp hp with rfl|hp
   ·omega
   ·have:=c p hp;omega
theorem tm(L:af):∀(n f:Nat),f≤n→∀(j o:Nat) (r:Int),1≤o→cU L f j o=r→0≤r→∃k e,bd L k (j:Int) e∧jw L (j:Int) e∧0≤e∧e<(L.length:Int)∧ae (aa L e) [41]=true∧((o=1∧r=e+1)∨(2≤o∧∃g,g<f∧cU L g (e+1).toNat (o-1)=r))
 |_,0,_,j,o,r,_,h,hr=>by
  have:(-1:Int)=r:=h;omega
 |0,f+1,hf,_,_,_,_,_,_=>by omega
 |n+1,f+1,hf,j,o,r,ho,h,hr=>by
  by_cases hj:j<L.length
  ·have hj0:(0:Int)≤(j:Int):=by omega
   have hj1:(j:Int)<(L.length:Int):=by omega
   have hjn:((j:Int)).toNat=j:=by omega
   cases h40:ae (aa L j) [40]
   ·cases h41:ae (aa L j) [41]
    ·have hp:bB (aa L j):=⟨h40,h41⟩;have hq:=Av (L:=L) (f:=f) (o:=o) hj0 hj1 hp ho;rw[hjn]at hq;rw[hq,show((j:Int)+1).toNat=j+1 by omega]at h;obtain⟨k,e,h1,h2,h3,h4,h5,h6⟩:=tm L n f (by omega) (j+1) o r ho h hr;rw[show((j+1:Nat):Int)=(j:Int)+1 by omega]at h1 h2;have hit:=gw hj0 hj1 hp;refine⟨k+1,e,⟨by omega,by rw[hit];exact h1⟩,(oB hj0 hj1 hp).trans h2,h3,h4,h5,?_⟩;rcases h6 with h6|⟨a,g,hg,h6⟩
     ·exact Or.inl h6
     ·exact Or.inr ⟨a,g,by omega,h6⟩
    ·refine⟨0,(j:Int),rfl,tI hj0 (by omega),hj0,hj1,h41,?_⟩;by_cases ho1:o=1
     ·subst ho1;have hq:=Au (L:=L) (f:=f) hj0 hj1 h40 h41;rw[hjn]at hq;exact Or.inl ⟨rfl,by rw[←h,hq]⟩
     ·obtain⟨o',rfl⟩:∃q,o=q+1:=⟨o-1,by omega⟩;have hq:=Aw (L:=L) (f:=f) (o:=o') hj0 hj1 h40 h41 (by omega);rw[hjn]at hq;rw[hq]at h;exact Or.inr ⟨by omega,f,by omega,h⟩
   ·have hq:=sN (L:=L) (f:=f) (o:=o) hj0 hj1 h40;rw[hjn]at hq;rw[hq,show((j:Int)+1).toNat=j+1 by omega]at h;obtain⟨k,e,h1,h2,h3,h4,h5,h6⟩:=tm L n f (by omega) (j+1) (o+1) r (by omega) h hr;rw[show((j+1:Nat):Int)=(j:Int)+1 by omega]at h1 h2;obtain⟨hs,hit⟩:=na hj0 hj1 h40 h2 h4 h5;rcases h6 with⟨a,_⟩|⟨_,g,hg,h6⟩
    ·omega
    ·rw[show o+1-1=o by omega]at h6;obtain⟨k',e',h1',h2',h3',h4',h5',h6'⟩:=tm L n g (by omega) (e+1).toNat o r ho h6 hr;rw[show(((e+1).toNat:Nat):Int)=e+1 by omega]at h1' h2';refine⟨k'+1,e',⟨by omega,by rw[hit];exact h1'⟩,hs.trans h2',h3',h4',h5',?_⟩;rcases h6' with h6'|⟨a,g',hg',h6'⟩
     ·exact Or.inl h6'
     ·exact Or.inr ⟨a,g',by omega,h6'⟩
  ·exfalso;unfold cU at h;rw[if_neg hj]at h;omega
theorem iz(ho:ae (aa L i) [40]=true)(h:0≤ag L i):∃k e,bd L k (i+1) e∧0≤e∧e<(L.length:Int)∧ae (aa L e) [41]=true∧ag L i=e+1:=by
 obtain⟨h0,h1⟩:=bF ho;have hq:=sN (L:=L) (f:=L.length) (o:=0) h0 h1 ho;have he:ag L i=cU L (L.length+1) i.toNat 0:=by unfold ag;rw[if_neg (by omega)]
 obtain⟨k,e,a,_,b,c,d,r⟩:=tm L _ _ (Nat.le_refl _) (i+1).toNat 1 (ag L i) (Nat.le_refl _) (by rw[he,hq]) h;rw[show(((i+1).toNat:Nat):Int)=i+1 by omega]at a;rcases r with⟨_,r⟩|⟨r,_⟩
 ·exact⟨k,e,a,b,c,d,r⟩
 ·omega
theorem sF(L:af):∀(f i o:Nat) (d:Int),cU L f i o=-1→(ko (dX L f i (o:Int)) d).1=-1
 |0,_,_,_,_=>rfl
 |f+1,i,o,d,h=>by
  by_cases hc:i<L.length∧bT (L.getD i ⟨#[]⟩)=true∧0≤eu (L.getD i ⟨#[]⟩) (o:Int)
  ·rw[mZ hc];simp only[ko];unfold cU at h;rw[if_pos hc.1]at h;have hop:=hc.2.2;cases h40:ae (L.getD i ⟨#[]⟩) [40]
   ·rw[h40]at h;cases h41:ae (L.getD i ⟨#[]⟩) [41]
    ·rw[h41]at h;have e1:eu (L.getD i ⟨#[]⟩) (o:Int)=(o:Int):=by unfold eu;rw[h40,h41];rfl
     rw[e1];simp only[Bool.false_eq_true,if_false]at h;by_cases ho:o=0
     ·rw[if_pos ho]at h;omega
     ·rw[if_neg ho]at h;rw[if_neg (by omega)];exact sF L f (i+1) o _ h
    ·rw[h41]at h;have e1:eu (L.getD i ⟨#[]⟩) (o:Int)=(o:Int)-1:=by unfold eu;rw[h40,h41];rfl
     rw[e1]at hop ⊢;simp only[Bool.false_eq_true,if_false,if_true]at h;rw[if_neg (by omega)]at h;by_cases ho:o=1
     ·rw[if_pos ho]at h;omega
     ·rw[if_neg ho]at h;rw[if_neg (by omega),show(o:Int)-1=((o-1:Nat):Int) by omega];exact sF L f (i+1) (o-1) _ h
   ·rw[h40]at h;have e1:eu (L.getD i ⟨#[]⟩) (o:Int)=((o+1:Nat):Int):=by unfold eu;rw[h40];rfl
    rw[e1];simp only[if_true]at h;rw[if_neg (by omega)];exact sF L f (i+1) (o+1) _ h
  ·rw[rC hc];rfl
theorem LZ(hs:bQ L=true)(h0:0≤i)(h1:i<(L.length:Int)):bT (aa L i)=true:=by
 rw[eT h0 h1];unfold bQ at hs;exact List.all_eq_true.mp hs _ (List.getElem_mem _)
theorem IW(hs:bQ L=true)(i:Int):(gX L i).1=ag L i:=by
 have hE:=ph L i;unfold Ends at hE;rcases hE with hE|hE
 ·rw[hE];unfold gX;split
  ·rfl
  ·rename_i h0;refine sF L _ _ 0 _ ?_;rw[←hE];unfold ag;rw[if_neg h0]
 ·rw[By (by omega) (fun k h1 h2=>LZ hs (by omega) (by omega))]
end
theorem Gg(X Y:af)(s:ByteArray):bc (X++Y) s=(bc X s||bc Y s):=by simp[bc]
theorem xU{α:Type}(f g:α→Bool):∀l:List α,(∀x∈l,f x=g x)→l.any f=l.any g
 |[],_=>rfl
 |x::l,h=>by
  rw[List.any_cons,List.any_cons,h x (List.mem_cons_self ..),xU f g l fun y hy=>h y (List.mem_cons_of_mem _ hy)]
theorem Nq(X:af)(s:ByteArray):db (X++[s])=(db X||bc X s):=by
 unfold db;rw[List.length_append,List.length_singleton,List.range_succ,List.any_append];congr 1
 ·refine xU _ _ _ fun i hi=>?_
  have hl:=List.mem_range.1 hi;rw[List.take_append_of_le_length (by omega)];congr 1;simp[List.getD,List.getElem?_append_left hl]
 ·simp
noncomputable def dm(L:af)(i:Int):List Int :=
 if ae (aa L (i+1)) [108,101,116]then [i+2]
 else if ae (aa L (i+1)) [116,97,107,101]then ar L (fm L 5 (i+4)-(i+3)).toNat (i+3)
 else if ae (aa L (i+1)) [118,97,114,115]||ae (aa L (i+1)) [104,105,100,100,101,110]then ar L (fm L 5 (i+2)-(i+2)).toNat (i+2)
 else []
def cY(L:af)(i:Int):Bool:=ae (aa L (i+1)) [104,105,100,100,101,110]
section
variable {L:af} {i:Int}
theorem KA(b:Bool)(h:b≠cY L i):aN L b i=[]∨cY L i=false:=by
 cases hb:cY L i
 ·exact Or.inr rfl
 ·left;rw[hb]at h;have e:b=false:=by cases b<;>simp_all
  subst e;unfold cY at hb;have h1:ae (aa L (i+1)) [118,97,114,115]=false:=aQ hb (by decide);have h2:ae (aa L (i+1)) [108,101,116]=false:=aQ hb (by decide);have h3:ae (aa L (i+1)) [116,97,107,101]=false:=aQ hb (by decide);unfold aN;rw[h1,h2,h3];rfl
theorem KJ(h:cY L i=false):aN L true i=[]:=by
 unfold cY at h;unfold aN;rw[h];rfl
theorem Cb(h:cY L i=true):aN L false i=[]:=(KA false (by rw[h];decide)).resolve_right (by rw[h];decide)
theorem mh(h:fm L 1 i≠-1):(dm L i).map (aa L)=aN L (cY L i) i∧∀p∈dm L i,i<p∧p<fm L 1 i:=by
 have hl:=fR h;unfold dm;cases hlet:ae (aa L (i+1)) [108,101,116]
 ·cases htk:ae (aa L (i+1)) [116,97,107,101]
  ·cases hv:ae (aa L (i+1)) [118,97,114,115]
   ·cases hh:ae (aa L (i+1)) [104,105,100,100,101,110]
    ·refine⟨?_,fun p hp=>by cases hp⟩;unfold cY aN;rw[hh,hlet,htk,hv];rfl
    ·have hq:=kT (c:=[104,105,100,100,101,110]) h (aZ hh) nB;obtain⟨h1,h2,h3,h4,h5⟩:=hq;obtain⟨a,b,c⟩:=lP (L:=L) (fm L 5 (i+2)-(i+2)).toNat (i+2) (by omega) (by omega) (fun k h6 h7=>h4 k h6 (by omega));rw[show i+2+((fm L 5 (i+2)-(i+2)).toNat:Int)=fm L 5 (i+2) by omega]at b c;refine⟨?_,fun p hp=>?_⟩
     ·unfold cY aN;rw[hh];exact b
     ·have:=c p hp;omega
   ·have hq:=kT (c:=[118,97,114,115]) h (aZ hv) nC;obtain⟨h1,h2,h3,h4,h5⟩:=hq;obtain⟨a,b,c⟩:=lP (L:=L) (fm L 5 (i+2)-(i+2)).toNat (i+2) (by omega) (by omega) (fun k h6 h7=>h4 k h6 (by omega));rw[show i+2+((fm L 5 (i+2)-(i+2)).toNat:Int)=fm L 5 (i+2) by omega]at b c;refine⟨?_,fun p hp=>?_⟩
    ·unfold cY aN;have h6:ae (aa L (i+1)) [104,105,100,100,101,110]=false:=aQ hv (by decide);rw[hv,h6];exact b
    ·have:=c p hp;omega
  ·obtain⟨h1,h2,h3,h4,h5,h6⟩:=mo h (aZ htk);obtain⟨a,b,c⟩:=lP (L:=L) (fm L 5 (i+4)-(i+3)).toNat (i+3) (by omega) (by omega) (fun k h7 h8=>h4 k h7 (by omega));rw[show i+3+((fm L 5 (i+4)-(i+3)).toNat:Int)=fm L 5 (i+4) by omega]at b c;refine⟨?_,fun p hp=>?_⟩
   ·unfold cY aN;have h7:ae (aa L (i+1)) [104,105,100,100,101,110]=false:=aQ htk (by decide);have h8:ae (aa L (i+1)) [118,97,114,115]=false:=aQ htk (by decide);rw[htk,hlet,h7,h8];exact b
   ·have:=c p hp;omega
 ·obtain⟨h1,h2,h3⟩:=sV h (aZ hlet);refine⟨?_,fun p hp=>?_⟩
  ·unfold cY aN;have h7:ae (aa L (i+1)) [104,105,100,100,101,110]=false:=aQ hlet (by decide);have h8:ae (aa L (i+1)) [118,97,114,115]=false:=aQ hlet (by decide);rw[hlet,h7,h8];rfl
  ·have hp':p∈[i+2]:=hp;rw[List.mem_singleton]at hp';omega
end
theorem yj:∀x:List UInt8,Op.bytesLess x x=false
 |[]=>rfl
 |a::x=>by simp[Op.bytesLess,yj x]
theorem yl:∀x y z:List UInt8,Op.bytesLess x y=true→Op.bytesLess y z=true→Op.bytesLess x z=true
 |_,[],_,h,_=>by simp[Op.bytesLess]at h
 |_,_::_,[],_,h=>by simp[Op.bytesLess]at h
 |[],_::_,_::_,_,_=>rfl
 |a::x,b::y,c::z,h,k=>by
  simp only[Op.bytesLess,Bool.or_eq_true,Bool.and_eq_true,decide_eq_true_eq,beq_iff_eq]at h k ⊢;rcases h with h|⟨rfl,h⟩
  ·rcases k with k|⟨rfl,_⟩
   ·exact Or.inl (UInt8.lt_trans h k)
   ·exact Or.inl h
  ·rcases k with k|⟨rfl,k⟩
   ·exact Or.inl k
   ·exact Or.inr ⟨rfl,yl x y z h k⟩
theorem yk:∀x y:List UInt8,x≠y→Op.bytesLess x y=true∨Op.bytesLess y x=true
 |[],[],h=>absurd rfl h
 |[],_::_,_=>Or.inl rfl
 |_::_,[],_=>Or.inr rfl
 |a::x,b::y,h=>by
  simp only[Op.bytesLess,Bool.or_eq_true,Bool.and_eq_true,decide_eq_true_eq,beq_iff_eq];by_cases hab:a=b
  ·subst hab;have hxy:x≠y:=fun e=>h (by rw[e])
   rcases yk x y hxy with k|k
   ·exact Or.inl (Or.inr ⟨rfl,k⟩)
   ·exact Or.inr (Or.inr ⟨rfl,k⟩)
  ·rcases UInt8.lt_or_lt_of_ne hab with k|k
   ·exact Or.inl (Or.inl k)
   ·exact Or.inr (Or.inl k)
theorem nU(a:ByteArray):cV a a=false:=yj _
theorem qW{a b c:ByteArray}(h:cV a b=true)(k:cV b c=true):cV a c=true:=yl _ _ _ h k
theorem vS{a b:ByteArray}(h:a≠b):cV a b=true∨cV b a=true:=yk _ _ (fun e=>h (by rw[ByteArray.toList_eq,ByteArray.toList_eq]at e;exact jS e))
def iE(X:af):Prop:=X.Pairwise fun a b=>cV a b=true
theorem CQ:∀{X Y:af},iE X→iE Y→(∀s,s∈X↔s∈Y)→X=Y
 |[],[],_,_,_=>rfl
 |[],y::Y,_,_,h=>absurd ((h y).mpr (List.mem_cons_self ..)) (by simp)
 |x::X,[],_,_,h=>absurd ((h x).mp (List.mem_cons_self ..)) (by simp)
 |x::X,y::Y,hX,hY,h=>by
  unfold iE at hX hY;rw[List.pairwise_cons]at hX hY;have hxy:x=y:=Classical.byContradiction fun hne=>by
   have h1:=(h x).mp (List.mem_cons_self ..);have h2:=(h y).mpr (List.mem_cons_self ..);rcases List.mem_cons.mp h1 with e|h1
   ·exact hne e
   ·rcases List.mem_cons.mp h2 with e|h2
    ·exact hne e.symm
    ·have h3:=qW (hX.1 y h2) (hY.1 x h1);rw[nU]at h3;cases h3
  subst hxy;rw[CQ hX.2 hY.2 (fun s=>?_)];constructor
  ·intro hs;rcases List.mem_cons.mp ((h s).mp (List.mem_cons_of_mem _ hs))with e|hs2
   ·subst e;have:=hX.1 s hs;rw[nU]at this;cases this
   ·exact hs2
  ·intro hs;rcases List.mem_cons.mp ((h s).mpr (List.mem_cons_of_mem _ hs))with e|hs2
   ·subst e;have:=hY.1 s hs;rw[nU]at this;cases this
   ·exact hs2
theorem CC(x s:ByteArray)(X:af):cN (x::X) s=if cV x s=true then x::cN X s else if(x.toList==s.toList)=true then x::X else s::x::X:=by
 by_cases h:cV x s=true
 ·rw[if_pos h];have e:fJ (x::X) s=fJ X s+1:=by unfold fJ;simp[h]
  unfold cN;rw[e];have e2:(x::X).getD (fJ X s+1) ⟨#[]⟩=X.getD (fJ X s) ⟨#[]⟩:=by simp[List.getD]
  have e3:decide (fJ X s+1<(x::X).length)=decide (fJ X s<X.length):=by simp
  rw[e2,e3];split
  ·rfl
  ·rfl
 ·rw[if_neg h];have e:fJ (x::X) s=0:=by unfold fJ;simp[h]
  unfold cN;rw[e];have e2:(x::X).getD 0 ⟨#[]⟩=x:=rfl;have e3:decide (0<(x::X).length)=true:=by simp
  rw[e2,e3,Bool.and_true];split
  ·rfl
  ·rfl
theorem wN:∀(X:af) (s t:ByteArray),t∈cN X s↔t=s∨t∈X
 |[],s,t=>by
  have:cN [] s=[s]:=by unfold cN fJ;simp
  rw[this];simp
 |x::X,s,t=>by
  rw[CC];split
  ·rw[List.mem_cons,wN X s t,List.mem_cons];constructor
   ·rintro(h|h|h)
    ·exact Or.inr (Or.inl h)
    ·exact Or.inl h
    ·exact Or.inr (Or.inr h)
   ·rintro(h|h|h)
    ·exact Or.inr (Or.inl h)
    ·exact Or.inl h
    ·exact Or.inr (Or.inr h)
  ·split
   ·rename_i h1;have e:x=s:=by
     rw[ByteArray.toList_eq,ByteArray.toList_eq,beq_iff_eq]at h1;exact jS h1
    constructor
    ·exact fun h=>Or.inr h
    ·rintro(h|h)
     ·rw[h,e];exact List.mem_cons_self ..
     ·exact h
   ·rw[List.mem_cons]
theorem CE:∀(X:af) (s:ByteArray),iE X→iE (cN X s)
 |[],s,_=>by
  have:cN [] s=[s]:=by unfold cN fJ;simp
  rw[this];exact List.pairwise_singleton ..
 |x::X,s,h=>by
  rw[CC];have h':=h;unfold iE at h;rw[List.pairwise_cons]at h;split
  ·rename_i h1;refine List.pairwise_cons.mpr ⟨fun t ht=>?_,CE X s h.2⟩;rcases (wN X s t).mp ht with e|ht
   ·rw[e];exact h1
   ·exact h.1 t ht
  ·split
   ·exact h'
   ·rename_i h1 h2;have hne:x≠s:=fun e=>h2 (by rw[e];simp)
    have hlt:cV s x=true:=(vS hne).resolve_left h1;refine List.pairwise_cons.mpr ⟨fun t ht=>?_,h'⟩;rcases List.mem_cons.mp ht with e|ht
    ·rw[e];exact hlt
    ·exact qW hlt (h.1 t ht)
theorem wM:∀(Y X:af),iE X→iE (dp X Y)
 |[],_,h=>h
 |y::Y,X,h=>wM Y (cN X y) (CE X y h)
theorem rq:∀(Y X:af) (t:ByteArray),t∈dp X Y↔t∈X∨t∈Y
 |[],X,t=>by simp[dp]
 |y::Y,X,t=>by
  have e:dp X (y::Y)=dp (cN X y) Y:=rfl;rw[e,rq Y (cN X y) t,wN,List.mem_cons];constructor
  ·rintro((h|h)|h)
   ·exact Or.inr (Or.inl h)
   ·exact Or.inl h
   ·exact Or.inr (Or.inr h)
  ·rintro(h|h|h)
   ·exact Or.inl (Or.inr h)
   ·exact Or.inl (Or.inl h)
   ·exact Or.inr h
theorem K1{X Y:af}(hX:iE X)(h:∀s,s∈X↔s∈Y):X=dp [] Y:=CQ hX (wM Y [] List.Pairwise.nil) (fun s=>by rw[rq,h];simp)
end Go.Proofs.YtdojfommmpnbgaaGreatDoor
