import Derived.Test.YtdojfommmpnbgaaGreatDoorKBD
import Derived.Deep.RegionHeld3
set_option maxHeartbeats 4000000
set_option maxRecDepth 100000
namespace Go.Proofs.YtdojfommmpnbgaaGreatDoor
open Go.RowKit
def al:ByteArray:=⟨#[40]⟩
def aq:ByteArray:=⟨#[41]⟩
def bm:ByteArray:=⟨#[98,97,99,107]⟩
def dL:ByteArray:=⟨#[108,101,97,118,101]⟩
def dU:ByteArray:=⟨#[110,101,120,116]⟩
def cW:ByteArray:=⟨#[116,104,105,110,103]⟩
def dh:ByteArray:=⟨#[48]⟩
def bV:ByteArray:=⟨#[49]⟩
def cl:ByteArray:=⟨#[50]⟩
def eR:ByteArray:=⟨#[51]⟩
theorem iJ:ae al [40]=true:=kr [40]
theorem Ar:ae aq [41]=true:=kr [41]
theorem vw:ae aq [40]=false:=aQ Ar (by decide)
theorem rD(A B:af)(x:ByteArray):aa (A++(x::B)) (A.length:Int)=x:=by
 rw[eT (by omega) (by simp;omega)];simp
def Sk(F:af):Prop:=∀A B:af,jw (A++(F++B)) (A.length:Int) ((A.length+F.length:Nat):Int)
def cS(F:af):Prop:=Sk F∧0<F.length∧∀A B:af,ag (A++(F++B)) (A.length:Int)=((A.length+F.length:Nat):Int)
theorem oA:Sk []:=fun A B=>tI (by omega) (by simp;omega)
theorem iB{F G:af}(h:Sk F)(k:Sk G):Sk (F++G):=fun A B=>by
 have h1:=h A (G++B);have h2:=k (A++F) B;rw[List.append_assoc,List.length_append]at h2;rw[List.append_assoc,List.length_append,←Nat.add_assoc];exact h1.trans h2
theorem qP{x:ByteArray}(h:bB x):cS [x]:=by
 have e:∀A B:af,aa (A++([x]++B)) (A.length:Int)=x:=fun A B=>rD A B x
 have hl:∀A B:af,(A.length:Int)<((A++([x]++B)).length:Int):=fun A B=>by simp;omega
 exact⟨fun A B=>oB (by omega) (hl A B) (by rw[e];exact h),by simp,fun A B=>by rw[gw (by omega) (hl A B) (by rw[e];exact h)];rfl⟩
theorem qQ{F:af}(h:Sk F):cS (al::(F++[aq])):=by
 have key:∀A B:af,jw (A++(al::(F++[aq])++B)) (A.length:Int) ((A.length+F.length+1:Nat)+1)∧ag (A++(al::(F++[aq])++B)) (A.length:Int)=((A.length+F.length+1:Nat)+1):=fun A B=>by
  have h1:=h (A++[al]) ([aq]++B);have e1:A++[al]++(F++([aq]++B))=A++(al::(F++[aq])++B):=by simp
  rw[e1,List.length_append,List.length_singleton]at h1;have h2:aa (A++(al::(F++[aq])++B)) (A.length:Int)=al:=rD A _ al;have h3:aa (A++(al::(F++[aq])++B)) ((A.length+F.length+1:Nat):Int)=aq:=by
   have:=rD (A++al::F) B aq;simp only[List.append_assoc,List.cons_append,List.length_append,List.length_cons]at this;simpa[Nat.add_assoc]using this
  refine na (by omega) (by simp;omega) (by rw[h2];exact iJ) ?_ (by simp;omega) (by rw[h3];exact Ar);rw[show((A.length+F.length+1:Nat):Int)=((A.length+1+F.length:Nat):Int) by omega,show((A.length:Int)+1)=((A.length+1:Nat):Int) by omega];exact h1
 have el:(al::(F++[aq])).length=F.length+1+1:=by simp
 refine⟨fun A B=>?_,by rw[el];omega,fun A B=>?_⟩
 ·have:=(key A B).1;rw[el,show((A.length+(F.length+1+1):Nat):Int)=((A.length+F.length+1:Nat):Int)+1 by omega];exact this
 ·have:=(key A B).2;rw[el,show((A.length+(F.length+1+1):Nat):Int)=((A.length+F.length+1:Nat):Int)+1 by omega];exact this
def ju(M:Bool→af→af→Prop):Nat→af→af→Prop
 |0,X,U=>X=[]∧U=[]
 |k+1,X,U=>∃F R G Z,X=F++R∧U=G++Z∧cS F∧M (k==0) F G∧ju M k R Z
theorem AE{M:Bool→af→af→Prop}:∀k X U,ju M k X U→Sk X
 |0,_,_,h=>by rw[h.1];exact oA
 |k+1,_,_,⟨F,R,G,Z,rfl,_,hF,_,hR⟩=>iB hF.1 (AE k R Z hR)
theorem AB{M M':Bool→af→af→Prop}(h:∀l F G,M l F G→M' l F G):∀k X U,ju M k X U→ju M' k X U
 |0,_,_,hh=>hh
 |k+1,_,_,⟨F,R,G,Z,e1,e2,hF,hM,hR⟩=>⟨F,R,G,Z,e1,e2,hF,h _ _ _ hM,AB h k R Z hR⟩
def cJ(h:ByteArray):Option ByteArray:=if ae h [108,101,97,118,101]then some cl else if ae h [110,101,120,116]then some eR else none
def fj(h:ByteArray):Bool:=ae h [119,104,105,108,101]||ae h [102,111,114]
def MO:Nat→Bool→af→af→Prop
 |0,_,_,_=>False
 |n+1,b,F,G =>
  (∃x,F=[x]∧G=[x]∧ae x [40]=false) ∨
  (∃B,F=al::bG::B∧G=F) ∨
  (∃S,F=al::bm::(S++[aq])∧cS S∧G=al::bm::al::cW::bV::(S++[aq,aq])) ∨
  (∃h t,F=[al,h,aq]∧cJ h=some t∧G=if b then F else [al,bm,al,cW,t,aq,aq]) ∨
  (∃h k B U,F=al::(h::B++[aq])∧G=al::(U++[aq])∧bB h∧ae h [102,110]=false∧ae h [98,97,99,107]=false∧cJ h=none∧ju (fun last X Y=>(MO n (b||fj h) X Y)∧(last=false→MO n b X Y)) k (h::B) U)
theorem vY:∀n b F G,MO n b F G→MO (n+1) b F G
 |0,_,_,_,h=>absurd h id
 |n+1,b,F,G,h=>by
  rcases h with h|h|h|h|⟨hd,k,B,U,e1,e2,e3,e4,e5,e6,h⟩
  ·exact Or.inl h
  ·exact Or.inr (Or.inl h)
  ·exact Or.inr (Or.inr (Or.inl h))
  ·exact Or.inr (Or.inr (Or.inr (Or.inl h)))
  ·exact Or.inr (Or.inr (Or.inr (Or.inr ⟨hd,k,B,U,e1,e2,e3,e4,e5,e6,AB (fun l X Y hh=>⟨vY n _ _ _ hh.1,fun e=>vY n _ _ _ (hh.2 e)⟩) k _ _ h⟩)))
def nr(O:Bool→af→af→Prop)(b:Bool)(R S R':af):Prop :=
 (∃x,R=x::R'∧S=[x]∧ae x [40]=false) ∨
 (∃B,R=(al::bG::B)++R'∧S=al::bG::B∧cS S) ∨
 (∃h B U,R=(al::h::B)++R'∧cS (al::h::B)∧fj h=true∧O true (h::B) U∧S=al::U) ∨
 (∃S',R=(al::bm::(S'++[aq]))++R'∧cS (al::bm::(S'++[aq]))∧S=al::bm::al::cW::bV::(S'++[aq,aq])) ∨
 (∃h t,R=[al,h,aq]++R'∧cJ h=some t∧b=false∧S=[al,bm,al,cW,t,aq,aq]∧cS [al,h,aq]) ∨
 (∃h B R'',R=al::R'∧R=(al::h::(B++[aq]))++R''∧S=[al]∧cS (al::h::(B++[aq]))∧ae h [102,110]=false∧fj h=false∧ae h [98,97,99,107]=false∧(cJ h=none∨b=true))
def kZ:Nat→Bool→af→af→Prop
 |0,_,X,Y=>X=[]∧Y=[]
 |n+1,b,X,Y=>(X=[]∧Y=[])∨∃S R' Z,nr (kZ n) b X S R'∧Y=S++Z∧kZ n b R' Z
theorem De{O O':Bool→af→af→Prop}(h:∀b X Y,O b X Y→O' b X Y){b:Bool}{R S R':af}(hs:nr O b R S R'):nr O' b R S R':=by
 rcases hs with hs|hs|⟨hd,B,U,e1,e2,e3,e4,e5⟩|hs
 ·exact Or.inl hs
 ·exact Or.inr (Or.inl hs)
 ·exact Or.inr (Or.inr (Or.inl ⟨hd,B,U,e1,e2,e3,h _ _ _ e4,e5⟩))
 ·exact Or.inr (Or.inr (Or.inr hs))
theorem tg:∀n m,n≤m→∀b X Y,kZ n b X Y→kZ m b X Y
 |0,0,_,_,_,_,h=>h
 |0,m+1,_,_,_,_,h=>Or.inl h
 |n+1,0,hm,_,_,_,_=>by omega
 |n+1,m+1,hm,b,X,Y,h=>by
  rcases h with h|⟨S,R',Z,h1,h2,h3⟩
  ·exact Or.inl h
  ·exact Or.inr ⟨S,R',Z,De (tg n m (by omega)) h1,h2,tg n m (by omega) _ _ _ h3⟩
def ke(b:Bool)(X Y:af):Prop:=∃n,kZ n b X Y
theorem B7(b:Bool):ke b [] []:=⟨0,rfl,rfl⟩
theorem oc{b:Bool}{R S R' Z:af}(h:nr ke b R S R')(k:ke b R' Z):ke b R (S++Z):=by
 obtain⟨n,hn⟩:=k;have key:∃m,nr (kZ m) b R S R':=by
  rcases h with h|h|⟨hd,B,U,e1,e2,e3,⟨m,e4⟩,e5⟩|h
  ·exact⟨0,Or.inl h⟩
  ·exact⟨0,Or.inr (Or.inl h)⟩
  ·exact⟨m,Or.inr (Or.inr (Or.inl ⟨hd,B,U,e1,e2,e3,e4,e5⟩))⟩
  ·exact⟨0,Or.inr (Or.inr (Or.inr h))⟩
 obtain⟨m,hm⟩:=key;exact⟨max n m+1,Or.inr ⟨S,R',Z,De (tg m (max n m) (by omega)) hm,rfl,tg n (max n m) (by omega) _ _ _ hn⟩⟩
theorem rf{b:Bool}{x:ByteArray}{R Z:af}(hx:ae x [40]=false)(k:ke b R Z):ke b (x::R) (x::Z):=oc (Or.inl ⟨x,rfl,rfl,hx⟩) k
theorem s5{h:ByteArray}{t:ByteArray}(hl:cJ h=some t):ae h [40]=false∧ae h [102,110]=false∧fj h=false∧ae h [98,97,99,107]=false∧bB h:=by
 unfold cJ at hl;unfold fj bB;cases h1:ae h [108,101,97,118,101]
 ·rw[h1]at hl;cases h2:ae h [110,101,120,116]
  ·rw[h2]at hl;cases hl
  ·rw[aQ h2 (by decide),aQ h2 (by decide),aQ h2 (by decide),aQ h2 (by decide),aQ h2 (by decide),aQ h2 (by decide)];exact⟨rfl,rfl,rfl,rfl,rfl,rfl⟩
 ·rw[aQ h1 (by decide),aQ h1 (by decide),aQ h1 (by decide),aQ h1 (by decide),aQ h1 (by decide),aQ h1 (by decide)];exact⟨rfl,rfl,rfl,rfl,rfl,rfl⟩
theorem BD:∀n b F G,MO n b F G→cS F→∀R Z,ke b R Z→ke b (F++R) (G++Z)
 |0,_,_,_,h,_,_,_,_=>absurd h id
 |n+1,b,F,G,h,hI,R,Z,hO=>by
  rcases h with⟨x,rfl,rfl,hx⟩|⟨B,rfl,rfl⟩|⟨S,rfl,hS,rfl⟩|⟨hd,t,rfl,ht,rfl⟩|⟨hd,k,B,U,rfl,rfl,e3,e4,e5,e6,h⟩
  ·exact rf hx hO
  ·exact oc (Or.inr (Or.inl ⟨B,rfl,rfl,hI⟩)) hO
  ·exact oc (Or.inr (Or.inr (Or.inr (Or.inl ⟨S,rfl,hI,rfl⟩)))) hO
  ·obtain⟨l1,l2,l3,l4,l5⟩:=s5 ht;cases b
   ·exact oc (Or.inr (Or.inr (Or.inr (Or.inr (Or.inl ⟨hd,t,rfl,ht,rfl,rfl,hI⟩))))) hO
   ·exact oc (S:=[al]) (Or.inr (Or.inr (Or.inr (Or.inr (Or.inr ⟨hd,[],R,rfl,rfl,rfl,hI,l2,l3,l4,Or.inr rfl⟩))))) (rf l1 (rf vw hO))
  ·have key:∀(b':Bool) (M:Bool→af→af→Prop),(∀l X Y,M l X Y→MO n b' X Y)→∀k X U,ju M k X U→∀R Z,ke b' R Z→ke b' (X++R) (U++Z):=fun b' M hM k=>by
    induction k with
    |zero =>
     rintro X U ⟨rfl,rfl⟩ R Z hh;exact hh
    |succ k ih =>
     rintro X U ⟨F,Q,G,V,rfl,rfl,hF,hMF,hQ⟩ R Z hh;rw[List.append_assoc,List.append_assoc];exact BD n b' F G (hM _ _ _ hMF) hF _ _ (ih Q V hQ R Z hh)
   cases hl:fj hd
   ·have hk:=key b _ (fun l X Y hh=>by have:=hh.1;rw[hl,Bool.or_false]at this;exact this) k _ _ h ([aq]++R) ([aq]++Z) (rf vw hO);have h2:=oc (S:=[al]) (Or.inr (Or.inr (Or.inr (Or.inr (Or.inr ⟨hd,B,R,rfl,by simp,rfl,hI,e4,hl,e5,Or.inl e6⟩))))) hk;simpa using h2
   ·have hk:=key true _ (fun l X Y hh=>by have:=hh.1;rw[hl,Bool.or_true]at this;exact this) k _ _ h [aq] [aq] (rf vw (B7 true));have h2:=oc (b:=b) (R:=al::(hd::B++[aq])++R) (S:=al::(U++[aq])) (R':=R) (Or.inr (Or.inr (Or.inl ⟨hd,B++[aq],U++[aq],rfl,hI,hl,hk,rfl⟩))) hO;exact h2
theorem AD{n:Nat}{b:Bool}{M:Bool→af→af→Prop}(hM:∀l X Y,M l X Y→MO n b X Y):∀k X U,ju M k X U→ke b X U
 |0,_,_,⟨e1,e2⟩=>by rw[e1,e2];exact B7 b
 |k+1,_,_,⟨F,R,G,Z,e1,e2,hF,hMF,hR⟩=>by
  rw[e1,e2];exact BD n b F G (hM _ _ _ hMF) hF R Z (AD hM k R Z hR)
def Kd(L:af)(w:Nat)(k:Int):Prop:=1≤w∧w≤5∧aJ L w k≠-1
section
variable {L:af} {i j e x q k:Int}
theorem vz(h:aJ L 5 k≠-1):ae (aa L k) [40]=true∧∃e,ag L k=e+1∧e+1=aJ L 5 k∧k+2≤e∧e<(L.length:Int)∧ae (aa L e) [41]=true∧∀q,k+1≤q→q<e→aV (aa L q)=true:=by
 have h':aK L (fm L 5 (aU L (aK L k [40]))) [41]≠-1:=h;have he:aJ L 5 k=aK L (fm L 5 (aU L (aK L k [40]))) [41]:=rfl;have hq:aK L k [40]≠-1:=fun hx=>by
  rw[hx,BM,qA 5 (by decide),kN (by decide) (by decide)]at h';exact h' rfl
 obtain⟨q1,q2,q3,q4⟩:=gM (by decide) hq;rw[q1]at h' he;have hm:aU L (k+1)≠-1:=fun hx=>by
  rw[hx,qA 5 (by decide),kN (by decide) (by decide)]at h';exact h' rfl
 obtain⟨m1,m2,m3,m4⟩:=jF hm;rw[m1]at h' he;obtain⟨p1,p2,p3,p4⟩:=gM (by decide) h';have hn:=tc (L:=L) _ (k+1+1) (Nat.le_refl _) (by omega) (by omega) (fun hx=>by rw[hx]at p2;omega);have hall:∀q,k+1≤q→q<fm L 5 (k+1+1)→aV (aa L q)=true:=fun q h1 h2=>by
  by_cases hk:q=k+1
  ·rw[hk];exact m4
  ·exact hn.2.2 q (by omega) h2
 have hk:=rH (L:=L) (fm L 5 (k+1+1)-(k+1)).toNat (k+1) (fm L 5 (k+1+1)) (by have:=hn.1;omega) (by omega) (by omega) hall;have hit:=(na q2 q3 q4 hk p3 p4).2;exact⟨q4,fm L 5 (k+1+1),hit,by rw[he,p1],by have:=hn.1;omega,p3,p4,hall⟩
theorem GZ{w:Nat}(h:Kd L w k):ag L k=aJ L w k∧0≤k∧k<ag L k∧ag L k≤(L.length:Int):=by
 obtain⟨h1,h2,h3⟩:=h;by_cases h4:w≤3
 ·obtain⟨a,b⟩:=jU (L:=L) (i:=k) (w:=w) (by omega) h3;exact⟨b,a.ends⟩
 ·by_cases h5:w=4
  ·subst h5;obtain⟨a,b,c,d⟩:=lv h3;have:=gw c d (dD b);exact⟨by rw[this,a],c,by omega,by omega⟩
  ·have:w=5:=by omega
   subst this;obtain⟨a,e,b,c,d,f,_⟩:=vz h3;have:=bF a;exact⟨by rw[b,c],this.1,by omega,by omega⟩
theorem AU:∀(n:Nat) (t:List Nat × Option Nat) (j:Int),jG t→(∀w∈t.1,1≤w∧w≤5)→(t.2=none∨t.2=some 1∨t.2=some 3∨t.2=some 4)→aB L j≤n→0≤j→j≤(L.length:Int)+1→cC L t j≠-1 →
  ∃m e,bd L m j e∧0≤e∧ae (aa L e) [41]=true∧cC L t j=e+1∧∀k∈ar L m j,∃w,(w∈t.1∨t.2=some w)∧Kd L w k
 |0,t,j,_,_,_,hf,h0,h1,_=>by have:=gm (L:=L) h0 h1;omega
 |n+1,t,j,ht,hp,hr,hf,h0,h1,h=>by
  cases hc:ae (aa L j) [41]
  ·by_cases hin:j<(L.length:Int)
   ·rw[yA ht h0 hin hc]at h ⊢;have hw:(br t∈t.1∨t.2=some (br t))∧1≤br t∧br t≤5:=by
     obtain⟨ps,r⟩:=t;cases ps with
     |cons p ps=>exact⟨Or.inl (List.mem_cons_self ..),hp p (List.mem_cons_self ..)⟩
     |nil =>
      cases r with
      |none =>
       exfalso;have:aJ L (br (([],none):List Nat × Option Nat)) j=-1:=rfl;rw[this,uw]at h;exact h rfl
      |some p =>
       have hr':p=1∨p=3∨p=4:=by simpa using hr
       exact⟨Or.inr rfl,by show 1≤p;omega,by show p≤5;omega⟩
    have hne:aJ L (br t) j≠-1:=fun hx=>by
     rw[hx,uw]at h;exact h rfl
    have hk:Kd L (br t) j:=⟨hw.2.1,hw.2.2,hne⟩;obtain⟨e1,e2,e3,e4⟩:=GZ hk;have hpt:∀w∈(gN t).1,w∈t.1:=fun w hh=>List.mem_of_mem_tail hh
    have hfl:=dC (L:=L) h0 e3 (by omega);obtain⟨m,e,g1,g2,g3,g4,g5⟩:=AU n (gN t) (aJ L (br t) j) (BU ht) (fun w hh=>hp w (hpt w hh)) hr (by rw[←e1];omega) (by omega) (by omega) h;rw[←e1]at g1 g5;refine⟨m+1,e,⟨by omega,g1⟩,g2,g3,g4,fun k hkm=>?_⟩;rcases List.mem_cons.mp hkm with rfl|hkm
    ·exact⟨_,hw.1,hk⟩
    ·obtain⟨w,a,b⟩:=g5 k hkm;exact⟨w,a.imp (hpt w) id,b⟩
   ·exact absurd (ux ht h0 (by omega) h1) h
  ·rw[yB ht hc]at h ⊢;cases hm:cw t
   ·rw[hm]at h;exact absurd rfl h
   ·exact⟨0,j,rfl,h0,hc,rfl,fun k hk=>by cases hk⟩
theorem FE:∀g∈iI,g.1≠[]→g.1≠[102,110]→(∀w∈g.2.2.1,1≤w∧w≤5)∧(g.2.2.2=none∨g.2.2.2=some 1∨g.2.2.2=some 3∨g.2.2.2=some 4)∧(g.2.1=1→(∀w∈g.2.2.1,w=1∨w=4)∧(g.2.2.2=none∨g.2.2.2=some 1)):=by decide
theorem B4{h:List UInt8}{w:Nat}{g:List UInt8 × Nat × List Nat × Option Nat}(hg:cP h w=some g)(hw:w≤3):g∈iI∧g.1=h∧g.1≠[]∧gp g.2.1 w=true:=by
 have hm:=List.mem_of_find?_eq_some hg;have hh:=List.find?_some hg;unfold dF at hh;rw[Bool.and_eq_true]at hh;have hne:∀g∈iI,g.1=[]→5≤g.2.1:=by decide
 have hn:g.1≠[]:=fun he=>by
  have h5:=hne g hm he;have h1:=hh.1;unfold gp at h1;rw[Bool.or_eq_true,Bool.and_eq_true,beq_iff_eq,beq_iff_eq,beq_iff_eq]at h1;omega
 refine⟨hm,?_,hn,hh.1⟩;have h2:=hh.2;rw[Bool.or_eq_true,List.isEmpty_iff,beq_iff_eq]at h2;exact h2.resolve_left hn
theorem At(h:aH L i)(ho:ae (aa L i) [40]=true)(hf:dt L i=false):∃m e,bd L (m+1) (i+1) e∧0≤e∧ae (aa L e) [41]=true∧ag L i=e+1∧ag L (i+1)=i+2∧bB (aa L (i+1))∧∀k∈ar L m (i+2),∃w,Kd L w k∧(fm L 0 i≠-1→w=1∨w=4):=by
 obtain⟨h0,h1⟩:=bF ho;have hp:=h.plain ho;have hit:=(h.parts ho).1;have hie:=h.ends;have key:∀w g,(w=1∨w=3)→cP (aa L (i+1)).toList w=some g→cC L (g.2.2.1,g.2.2.2) (i+2)≠-1→ag L i=cC L (g.2.2.1,g.2.2.2) (i+2)→∃m e,bd L (m+1) (i+1) e∧0≤e∧ae (aa L e) [41]=true∧ag L i=e+1∧∀k∈ar L m (i+2),∃w',Kd L w' k∧(w=1→w'=1∨w'=4):=fun w g hw hg hne hie=>by
  obtain⟨g1,g2,g3,g4⟩:=B4 hg (by omega);have hnf:g.1≠[102,110]:=fun he=>by
   rw[g2]at he;unfold dt ae at hf;rw[he]at hf;exact absurd hf (by decide)
  obtain⟨k1,k2,k3⟩:=FE g g1 g3 hnf;obtain⟨m,e,a,b,c,d,f⟩:=AU (L:=L) _ (g.2.2.1,g.2.2.2) (i+2) (wy hg) k1 k2 (Nat.le_refl _) (by omega) (by omega) hne;refine⟨m,e,⟨by omega,by rw[hit];exact a⟩,b,c,by rw[hie,d],fun k hk=>?_⟩;obtain⟨w',q1,q2⟩:=f k hk;refine⟨w',q2,fun hw1=>?_⟩;have hg1:g.2.1=1:=by
   subst hw1;unfold gp at g4;rw[Bool.or_eq_true,Bool.and_eq_true,beq_iff_eq,beq_iff_eq,beq_iff_eq]at g4;omega
  obtain⟨z1,z2⟩:=k3 hg1;rcases q1 with q1|q1
  ·exact z1 w' q1
  ·simp only at q1;rcases z2 with z2|z2
   ·rw[z2]at q1;cases q1
   ·rw[z2]at q1;injection q1 with q1;exact Or.inl q1.symm
 by_cases hs:fm L 0 i=-1
 ·obtain⟨w,g,hw,hg,hne,hie2⟩:=h.form ho;obtain⟨m,e,a,b,c,d,f⟩:=key w g hw hg hne hie2;exact⟨m,e,a,b,c,d,hit,hp,fun k hk=>by
   obtain⟨w',q1,_⟩:=f k hk;exact⟨w',q1,fun hh=>absurd hs hh⟩⟩
 ·have he:=mB (L:=L) (i:=i) 1 (by decide) ho;have hne0:aJ L 1 i≠-1:=hs;cases hg:cP (aa L (i+1)).toList 1 with
  |none =>
   rw[hg]at he;exact absurd he hne0
  |some g =>
   rw[hg]at he;have he2:aJ L 1 i=cC L (g.2.2.1,g.2.2.2) (i+2):=by
    rw[he];show cC L (g.2.2.1,g.2.2.2) (if g.1.isEmpty then i+1 else i+2)=_;rw[if_neg (by rw[List.isEmpty_iff];exact(B4 hg (by decide)).2.2.1)]
   obtain⟨m,e,a,b,c,d,f⟩:=key 1 g (Or.inl rfl) hg (by rw[←he2];exact hne0) (by rw[lF hs,←he2];rfl);exact⟨m,e,a,b,c,d,hit,hp,fun k hk=>by
    obtain⟨w',q1,q2⟩:=f k hk;exact⟨w',q1,fun _=>q2 rfl⟩⟩
end
end Go.Proofs.YtdojfommmpnbgaaGreatDoor
namespace Go.Proofs.YtdojfommmpnbgaaGreatDoor
open Go.RowKit Go.Proofs.Tryz
theorem Gl(b off c:Nat)(H:af)(s:ByteArray)(T:Bool)(w:World)(HC:Hid (∀j (h:j<H.length),w.cell? ⟨b,off+j,none⟩=some (.string H[j])))(hl:H.length≤100)(HT:Hid ((H.any fun x=>dJ s x)=T)) :
  ah 123 #[.slice (some ⟨b,off,none⟩) H.length c,.string s] w fun e w'=>∃x:Int,e=.returned (.int .i64 x)∧(0≤x↔T=true)∧w'=w:=by
 go_enter func123,ntmps123;go_wp2;go_loop [5,8] (fun _ i=>∃k:Nat,k≤H.length∧i=.int .i64 (k:Int)∧Hid ((H.drop k).any (fun x=>dJ s x)=T)) (fun _ i=>H.length-(intOf i).toNat)
 case atStart=>exact⟨0,Nat.zero_le _,rfl,HT.out⟩
 case round =>
  obtain⟨k,hk,rfl,HA⟩:=hrel;by_cases hlt:k<H.length
  ·have hcell:=HC.out k hlt;have HB:=aj (by rw[←HA.out,List.drop_eq_getElem_cons hlt];rfl:(dJ s H[k]||(H.drop (k+1)).any fun x=>dJ s x)=T);clear HA;generalize H[k]=t at hcell HB;cases hq:(s.toList==t.toList)
   ·have HN:=aj (by rw[←HB.out];show _=((s.toList==t.toList)||_);rw[hq];rfl:(H.drop (k+1)).any (fun x=>dJ s x)=T);clear HB;go_wp2;exact⟨⟨k+1,by omega,by go_num,HN.out⟩,by simp[intOf];omega⟩
   ·have HN:=aj (by rw[←HB.out];show((s.toList==t.toList)||_)=true;rw[hq];rfl:T=true);clear HB;go_wp2;go_ret;exact⟨_,rfl,⟨fun _=>HN.out,fun _=>by omega⟩,rfl⟩
  ·have HN:=aj (by rw[←HA.out,List.drop_eq_nil_of_le (by omega)];rfl:T=false);clear HA;go_wp2;go_ret;exact⟨_,rfl,⟨fun h=>absurd h (by decide),fun h=>by rw[HN.out]at h;cases h⟩,rfl⟩
theorem EA(b off c:Nat)(H:af)(s:ByteArray)(w:World)(hc:∀j (h:j<H.length),w.cell? ⟨b,off+j,none⟩=some (.string H[j]))(hl:H.length≤100) :
  ah 63 #[.slice (some ⟨b,off,none⟩) H.length c,.string s] w fun e w'=>e=.returned (.bool (H.any fun x=>dJ s x))∧w'=w:=by
 have HC:Hid (∀j (h:j<H.length),w.cell? ⟨b,off+j,none⟩=some (.string H[j])):=hc;clear hc;obtain⟨T,hT⟩:∃T,(H.any fun x=>dJ s x)=T:=⟨_,rfl⟩;have HT:=aj hT;rw[hT];clear hT;go_enter func63,ntmps63;go_wp2_with fail;refine(Gl b off c H s T _ HC hl HT).mono ?_;rintro e w1 ⟨x,rfl,hx,rfl⟩;cases T
 ·have hx0:¬0≤x:=fun hh=>by
   have:=hx.mp hh;cases this
  clear hx
  go_wp2
  go_ret
  exact⟨by simp[hx0],rfl⟩
 ·have hx0:0≤x:=hx.mpr rfl;clear hx;go_wp2;go_ret;exact⟨by simp,rfl⟩
theorem bO{w w':World}{B:Nat}{e:TypeId}{sz n:Nat}{v:Value}{xs:List Value}(h:w.ownsRow B e sz v n xs)(hb:ai w w'):w'.ownsRow B e sz v n xs:=cR h (fun g hg=>hb.block g (World.ownsRow.lt h g hg).2)
theorem rA{W:World}{B n sz B' n' sz':Nat}{e e':TypeId}{v v':Value}{xs xs':List Value}(h:W.ownsRow B e sz v n xs)(h':W.ownsRow B' e' sz' v' n' xs')(hne:e≠e'){g:Nat}(hg:v.ownBlock=some g)(hg':v'.ownBlock=some g):False:=by
 rcases h.2 with⟨rfl,_⟩|⟨g1,cap,cur,rfl,_,hgb,_⟩
 ·simp[Value.ownBlock]at hg
 rcases h'.2 with⟨rfl,_⟩|⟨g2,cap',cur',rfl,_,hgb',_⟩
 ·simp[Value.ownBlock]at hg'
 simp[Value.ownBlock]at hg hg';subst hg hg';have:=Option.some.inj (hgb.symm.trans hgb');injection this with _ e2;exact hne e2
def dP(w:World)(B:Nat)(v:Value)(S:List (Int × Int)):Prop:=w.ownsRow B 64 2 v S.length (jk S)
def dr(w:World)(a:Option Addr)(S:List (Int × Int)):Prop:=∀k (h:k<S.length),∃g,a=some ⟨g,0,none⟩∧g<w.heap.size∧w.cell? ⟨g,k*2,none⟩=some (.int .i64 S[k].1)∧w.cell? ⟨g,k*2+1,none⟩=some (.int .i64 S[k].2)
theorem dr.call{w w':World}{a:Option Addr}{S:List (Int × Int)}(h:dr w a S)(hb:ai w w'):dr w' a S:=fun k hk=>by
 obtain⟨g,ha,hg,h1,h2⟩:=h k hk;exact⟨g,ha,Nat.lt_of_lt_of_le hg hb.size,(hb.cell (p:=⟨g,k*2,none⟩) hg).trans h1,(hb.cell (p:=⟨g,k*2+1,none⟩) hg).trans h2⟩
theorem dP.arg{w:World}{B:Nat}{v:Value}{S:List (Int × Int)}(h:dP w B v S):∃a c,v=.slice a S.length c∧dr w a S:=by
 obtain⟨av,cv,hv,hcv,_,hn,hs⟩:=iM h;refine⟨av,cv,hv,fun k hk=>?_⟩;cases av with
 |none=>exact absurd (hn rfl) (by omega)
 |some p =>
  obtain⟨g,rfl,_⟩:=hs p rfl;obtain⟨f1,f2⟩:=zP S k hk;have hadd:∀j,(⟨g,0,none⟩:Addr).add j=⟨g,j,none⟩:=fun j=>by unfold Addr.add;split<;>simp_all
  have hob:v.ownBlock=some g:=by rw[hv];simp[Value.ownBlock]
  have d1:=World.ownsRow.cells h hob _ _ f1;have d2:=World.ownsRow.cells h hob _ _ f2;rw[hadd]at d1 d2;exact⟨g,rfl,(World.ownsRow.lt h g hob).2,d1,d2⟩
theorem vr:(Tryz.prog.info? 64).map (fun i=>(i.zero,i.size,i.bytes))=some (some (.agg #[.int .i64 0,.int .i64 0]),2,16):=by kernel_rfl
theorem Da(w:World):dP (w.alloc (.cells #[] 64)) w.heap.size (.slice (some ⟨w.heap.size,0,none⟩) 0 0) [] :=
 World.ownsRow_made w #[] 0 (Nat.le_refl _) (Nat.zero_le _) rfl
theorem tQ(w:World)(u v:Value)(t:TypeId):∀j x,[u,v][j]?=some x→(w.alloc (.cells #[u,v] t)).cell? ((⟨w.heap.size,0,none⟩:Addr).add j)=some x:=fun j x hj=>by
 have hadd:∀j,(⟨w.heap.size,0,none⟩:Addr).add j=⟨w.heap.size,j,none⟩:=fun j=>by unfold Addr.add;split<;>simp_all
 rw[hadd];match j,hj with
 |0,hj=>simp at hj;subst hj;simp[go_sem]
 |1,hj=>simp at hj;subst hj;simp[go_sem]
theorem tJ(a:Option Addr)(cap:Nat)(L:af)(b off c:Nat)(H:af)(w:World)(h:aD w a L)(hp:aR L=true)(hs:bQ L=true)(hc:∀j (h:j<H.length),w.cell? ⟨b,off+j,none⟩=some (.string H[j]))(hb:b<w.heap.size)(hl:H.length≤100) :
  ah 36 #[.slice a L.length cap,.slice (some ⟨b,off,none⟩) H.length c] w fun e w'=>∃v,e=.returned v∧dP w' w.heap.size v (bN L H L.length)∧ai w w':=by
 have hL:=gy hp;obtain⟨i0,hi,hz0,hz1,hz2⟩:=info_parts vr;go_enter func36,ntmps36;go_wp2;go_loopw [5,6,7,11] (fun v5 _ _ v11 wr=>∃(k:Nat),v11=.int .i64 (k:Int)∧k≤L.length∧dP wr w.heap.size v5 (bN L H k)∧ai w wr) (fun _ _ _ v11 _=>L.length-(intOf v11).toNat)
 case atStart=>exact⟨0,rfl,Nat.zero_le _,Da w,ay (Below.refl _ _) _⟩
 case round =>
  obtain⟨k,rfl,hk,hO,hB⟩:=hrel;obtain⟨av,cv,rfl,_⟩:=iM hO;by_cases hlt:k<L.length
  ·have hA:=h.call hB;obtain⟨sb,o0,rfl,s0,hsb⟩:=hA.J (i:=k) hlt;have HS:Hid (bN L H (k+1)=bN L H k++(if ie L H (k:Int)then [((k:Int),ag L k)]else [])):=(rfl:bN L H (k+1)=bN L H k++(if ie L H (k:Int)then [((k:Int),ag L k)]else []));cases ho:ae (aa L k) [40]
   ·have b40:=aM ho;have HE:=aj (by rw[HS.out];unfold ie;rw[ho];simp:bN L H (k+1)=bN L H k);have hO2:dP wr w.heap.size (.slice av (bN L H k).length cv) (bN L H (k+1)):=by rw[HE.out];exact hO
    clear HS HE hO;generalize aa L (k:Int)=y0 at s0 b40;generalize (bN L H k).length=m at hO2 ⊢;go_wp2;go_roundw
    case rel=>exact⟨k+1,by go_num,by omega,hO2,hB⟩
    case measure=>simp[intOf];omega
   ·have b40:=aM ho;have hk1:k+1<L.length:=by
     have:=(wJ hp (k:Int) (by omega) (by omega) ho).1;omega
    obtain⟨sb1,o1,ha1,s1,_⟩:=hA.J (i:=k+1) hk1;injection ha1 with ha1;injection ha1 with e1 f1 _;subst e1;subst f1;rw[show((k+1:Nat):Int)=(k:Int)+1 by omega]at s1;have HC:Hid (ah 63 #[.slice (some ⟨b,off,none⟩) H.length c,.string (aa L ((k:Int)+1))] wr fun e w'=>e=.returned (.bool (H.any fun x=>dJ (aa L ((k:Int)+1)) x))∧w'=wr):=EA b off c H _ wr (fun j hj=>(hB.cell (p:=⟨b,off+j,none⟩) hb).trans (hc j hj)) hl;have HQ:=aj (by unfold ie;rw[ho,Bool.true_and]:ie L H (k:Int)=(H.any fun x=>dJ (aa L ((k:Int)+1)) x));rw[HQ.out]at HS;clear HQ;generalize (H.any fun x=>dJ (aa L ((k:Int)+1)) x)=o at HC HS;generalize aa L ((k:Int)+1)=y1 at s1 HC;generalize aa L (k:Int)=y0 at s0 b40;cases o
    ·have HE:=aj (by rw[HS.out];simp:bN L H (k+1)=bN L H k);have hO2:dP wr w.heap.size (.slice av (bN L H k).length cv) (bN L H (k+1)):=by rw[HE.out];exact hO
     clear HS HE hO;generalize (bN L H k).length=m at hO2 ⊢;go_wp2_with fail;refine HC.out.mono ?_;rintro r w1 ⟨rfl,rfl⟩;go_wp2;go_roundw
     case rel=>exact⟨k+1,by go_num,by omega,hO2,hB⟩
     case measure=>simp[intOf];omega
    ·have HE:Hid (bN L H (k+1)=bN L H k++[((k:Int),ag L k)]):=HS.out;have HI:Hid (ah 44 #[.slice (some ⟨sb,o0,none⟩) L.length cap,.int .i64 k] wr (aA (.int .i64 (ag L k)) wr)):=nO _ cap L (k:Int) wr hA (by omega) hs;have hsl:=nc L H k;generalize ag L (k:Int)=z at HE HI;clear HS;go_wp2_with fail;refine HC.out.mono ?_;rintro r w1 ⟨rfl,rfl⟩;go_wp2_with fail;refine HI.out.mono ?_;rintro r w2 ⟨rfl,hb2⟩;have hB2:=aw hB hb2;have hO2:w2.ownsRow w.heap.size 64 2 (.slice av (bN L H k).length cv) (bN L H k).length (jk (bN L H k)):=cR hO (fun g hg=>hb2.block g (World.ownsRow.lt hO g hg).2);have hcc1:=tQ w2 (.int .i64 k) (.int .i64 z) 64;have hcc2:∀u∈[Value.int .i64 k,.int .i64 z],u.oneCell'=true:=fun u hu=>by simp at hu;rcases hu with rfl|rfl<;>rfl
     have hcc3:(bN L H k).length+1≤maxLen:=by unfold maxLen;omega
     have hcc4:((bN L H k).length+1)*16≤140737488355328:=by omega
     have hsz:=hB2.size;have hcc5:w.heap.size≤(w2.alloc (.cells #[.int .i64 k,.int .i64 z] 64)).heap.size:=by simp;omega
     have HE2:Hid (∀v W,W.ownsRow w.heap.size 64 2 v ((bN L H k).length+1) (jk (bN L H k)++[.int .i64 k,.int .i64 z])→dP W w.heap.size v (bN L H (k+1))):=fun v W hW=>by
      unfold dP;rw[HE.out,qy,List.length_append];exact hW
     clear hO HE;generalize (bN L H k).length=m at *;generalize jk (bN L H k)=fs at *;go_wp2_with (at_builtin;refine wpList_append_own _ rfl _ _ 60 rfl w.heap.size 64 i0 (.agg #[.int .i64 0,.int .i64 0]) 2 16 Tryz.underlying60 hi hz0 hz1 hz2 rfl (by decide) _ _ _ rfl (World.ownsRow.alloc hO2 _) ⟨w2.heap.size,0,none⟩ 1 1 [.int .i64 k,.int .i64 z] rfl rfl hcc1 hcc2 hcc3 hcc4 hcc5 ?_)
     intro v' w3 hown hgrow _;have hO3:=HE2.out v' w3 hown;have hB3:ai w w3:=(hB2.alloc hB2.size (.cells #[.int .i64 k,.int .i64 z] 64)).grown hgrow (by simp;omega) (fun g hg=>(World.ownsRow.lt hO2 g hg).1);obtain⟨av',cv',rfl,_⟩:=iM hown;clear hown hgrow hcc1 hcc2 hcc3 hcc4 hcc5 hO2;go_wp2;go_roundw
     case rel=>exact⟨k+1,by go_num,by omega,hO3,hB3⟩
     case measure=>simp[intOf];omega
  ·have e:k=L.length:=by omega
   subst e;generalize (bN L H L.length).length=m at hO ⊢;go_wp2;go_ret;exact⟨_,rfl,hO,hB⟩
theorem Gw(u v p:Int)(w:World) :
  ah 129 #[.agg #[.int .i64 u,.int .i64 v],.int .i64 p] w (aA (.bool (fF (u,v) p)) w):=by
 have hB:=ay (Below.refl w.heap.size w) (.cells #[.int .i64 u,.int .i64 v] 64);unfold fF;by_cases h1:u<p
 ·by_cases h2:p<v
  ·rw[decide_eq_true h1,decide_eq_true h2];go_enter func129,ntmps129;go_wp2;go_ret;exact⟨by first|rfl|simp|simp[h2],hB⟩
  ·rw[decide_eq_true h1,decide_eq_false h2];go_enter func129,ntmps129;go_wp2;go_ret;exact⟨by first|rfl|(simp;omega),hB⟩
 ·rw[decide_eq_false h1];go_enter func129,ntmps129;go_wp2;go_ret;exact⟨by first|rfl|(simp;omega),hB⟩
theorem vv(a:Option Addr)(c:Nat)(S:List (Int × Int))(p:Int)(w:World)(h:dr w a S)(hl:S.length≤5000) :
  ah 67 #[.slice a S.length c,.int .i64 p] w (aA (.int .i64 (bM p S (-1))) w):=by
 obtain⟨T,hT⟩:∃T,bM p S (-1)=T:=⟨_,rfl⟩;have HT:=aj hT;rw[hT];clear hT;go_enter func67,ntmps67;go_wp2;go_loopw [5,7,10] (fun v5 _ v10 wr=>∃(k:Nat) (m:Int),v5=.int .i64 m∧v10=.int .i64 (k:Int)∧k≤S.length∧Hid (bM p (S.drop k) m=T)∧ai w wr) (fun _ _ v10 _=>S.length-(intOf v10).toNat)
 case atStart=>exact⟨0,-1,rfl,rfl,Nat.zero_le _,HT.out,Below.refl _ _⟩
 case round =>
  obtain⟨k,m,rfl,rfl,hk,HK,hB⟩:=hrel;by_cases hlt:k<S.length
  ·obtain⟨g,rfl,hg,c1,c2⟩:=h.call hB k hlt;have HK2:=aj (by rw[←HK.out,List.drop_eq_getElem_cons hlt];rfl:bM p (S.drop (k+1)) (if fF S[k] p then max m S[k].1 else m)=T);obtain⟨u,v,huv⟩:∃u v,S[k]=(u,v):=⟨_,_,rfl⟩;rw[huv]at HK2 c1 c2;have HA:Hid (∀W:World,ah 129 #[.agg #[.int .i64 u,.int .i64 v],.int .i64 p] W (aA (.bool (fF (u,v) p)) W)):=Gw u v p;have hB1:=ay hB (.cells #[.int .i64 u,.int .i64 v] 64);have hlt1:wr.heap.size<(wr.alloc (.cells #[.int .i64 u,.int .i64 v] 64)).heap.size:=by simp
   have hbx:(wr.alloc (.cells #[.int .i64 u,.int .i64 v] 64)).cell? ⟨wr.heap.size,0,none⟩=some (.int .i64 u):=by simp[go_sem]
   simp only at HK2 c1 c2;clear HK huv;generalize fF (u,v) p=o at HA HK2;go_wp2_with fail;refine(HA.out _).mono ?_;rintro r w2 ⟨rfl,hb2⟩;have hB2:=aw hB1 hb2;have hx2:=(hb2.cell (p:=⟨wr.heap.size,0,none⟩) hlt1).trans hbx;cases o
   ·go_wp2;go_roundw
    case rel=>exact⟨k+1,m,rfl,by go_num,by omega,HK2.out,hB2⟩
    case measure=>simp[intOf];omega
   ·go_wp2;go_roundw
    case rel=>exact⟨k+1,max m u,by first|rfl|simp,by go_num,by omega,HK2.out,hB2⟩
    case measure=>simp[intOf];omega
  ·have HE:=aj (by rw[←HK.out,List.drop_eq_nil_of_le (by omega)];rfl:m=T);clear HK;go_wp2;go_ret;exact⟨by rw[←HE.out];rfl,hB⟩
def kY(w:World)(p:Int)(x:World):Prop:=x.cell? ⟨w.heap.size,0,none⟩=some (.int .i64 p)∧w.heap.size<x.heap.size∧ai w x
theorem kY.call{w x y:World}{p:Int}(h:kY w p x)(hb:ai x y):kY w p y :=
 ⟨(hb.cell (p:=⟨w.heap.size,0,none⟩) h.2.1).trans h.1,Nat.lt_of_lt_of_le h.2.1 hb.size,aw h.2.2 hb⟩
theorem kY.drew{w x:World}{p:Int}(h:kY w p x):kY w p x.drew:=⟨h.1,h.2.1,h.2.2.drew⟩
theorem Gz(a a':Option Addr)(c c':Nat)(S S':List (Int × Int))(p q:Int)(w:World)(h:dr w a S)(h':dr w a' S')(hl:S.length≤5000)(hl':S'.length≤5000) :
  ah 38 #[.agg #[.int .i64 p,.int .i64 q],.slice a S.length c,.slice a' S'.length c'] w (aA (.bool (decide (bM p S' (-1)<bM p S (-1)))) w):=by
 have hB0:=ay (Below.refl w.heap.size w) (.cells #[.int .i64 p,.int .i64 q] 64);have hlt0:w.heap.size<(w.alloc (.cells #[.int .i64 p,.int .i64 q] 64)).heap.size:=by simp
 have hx0:(w.alloc (.cells #[.int .i64 p,.int .i64 q] 64)).cell? ⟨w.heap.size,0,none⟩=some (.int .i64 p):=by simp[go_sem]
 obtain⟨w0,hw0⟩:∃w0,w0=w.alloc (.cells #[.int .i64 p,.int .i64 q] 64):=⟨_,rfl⟩;have hn0:(w0.drew).cell? ⟨w.heap.size,0,none⟩=some (.int .i64 p):=by rw[hw0];exact hx0
 have HI:Hid (∀W:World,ai w W→ah 67 #[.slice a S.length c,.int .i64 p] W (aA (.int .i64 (bM p S (-1))) W)):=fun W hW=>vv a c S p W (h.call hW) hl
 have HJ:Hid (∀W:World,ai w W→ah 67 #[.slice a' S'.length c',.int .i64 p] W (aA (.int .i64 (bM p S' (-1))) W)):=fun W hW=>vv a' c' S' p W (h'.call hW) hl'
 rw[←hw0]at hB0 hlt0 hx0;have hD0:ai w w0.drew:=hB0.drew;generalize bM p S (-1)=x at HI ⊢;generalize bM p S' (-1)=y at HJ ⊢;have hT:kY w p w0:=⟨hx0,hlt0,hB0⟩;clear h h' hl hl' hx0 hlt0 hB0 hn0 hD0;go_enter func38,ntmps38;go_upto_region 1 with fail;rw[←hw0];clear hw0
 go_region_held3 (fun x=>x.cell? ⟨w.heap.size,0,none⟩=some (.int .i64 p)∧w.heap.size<x.heap.size∧ai w x)
  ((show kY w p _;first|(with_reducible exact hT3)|(with_reducible exact hT.drew)))
  (first
   |(go_at_call 67;have hW3:=hT3.2.2;refine(HJ.out _ hW3).mono ?_;rintro e w3 ⟨rfl,hb3⟩;have hT3:=kY.call hT3 hb3)
   |(go_at_call 67;have hW3:=hT.drew.2.2;refine(HI.out _ hW3).mono ?_;rintro e w3 ⟨rfl,hb3⟩;have hT3:=kY.call hT.drew hb3)
   |fail)
 all_goals go_wp2
 all_goals go_ret
 all_goals exact⟨rfl,hT3.2.2⟩
theorem It(a:Option Addr)(cap:Nat)(L:af)(w:World)(h:aD w a L)(hp:aR L=true)(hs:bQ L=true) :
  ah 35 #[.slice a L.length cap] w fun e w'=>∃v,e=.returned v∧dP w' w.heap.size v (fi L)∧ai w w':=by
 have hB0:=ay (Below.refl w.heap.size w) (.cells #[.string ⟨#[119,104,105,108,101]⟩,.string ⟨#[102,111,114]⟩] 9);obtain⟨w0,hw0⟩:∃w0,w0=w.alloc (.cells #[.string ⟨#[119,104,105,108,101]⟩,.string ⟨#[102,111,114]⟩] 9):=⟨_,rfl⟩;have hlt0:w.heap.size<w0.heap.size:=by rw[hw0];simp
 have hcc:∀j (h:j<[mr,lT].length),w0.cell? ⟨w.heap.size,0+j,none⟩=some (.string [mr,lT][j]):=fun j hj=>by
  rw[hw0];match j,hj with
  |0,_=>simp[go_sem,mr]
  |1,_=>simp[go_sem,lT]
 rw[←hw0]at hB0;have HC:Hid (ah 36 #[.slice a L.length cap,.slice (some ⟨w.heap.size,0,none⟩) 2 2] w0 fun e w'=>∃v,e=.returned v∧dP w' w0.heap.size v (fi L)∧ai w0 w'):=tJ a cap L w.heap.size 0 2 [mr,lT] w0 (h.call hB0) hp hs hcc hlt0 (by decide);clear hcc;go_enter func35,ntmps35;go_wp2_with fail;rw[←hw0];refine HC.out.mono ?_;rintro r w1 ⟨v,rfl,hO,hb1⟩;go_wp2;go_ret;exact⟨_,rfl,⟨hO.1,hO.2.imp id (fun ⟨g,cp,cur,e1,e2,e3⟩=>⟨g,cp,cur,e1,by omega,e3⟩)⟩,aw hB0 hb1⟩
theorem BY(w:World)(s:ByteArray):∀j (h:j<[s].length),(w.alloc (.cells #[.string s] 9)).cell? ⟨w.heap.size,0+j,none⟩=some (.string [s][j]):=fun j hj=>by
 match j,hj with
 |0,_=>simp[go_sem]
end Go.Proofs.YtdojfommmpnbgaaGreatDoor
