import Derived.Test.YtdojfommmpnbgaaGreatDoorKAZ
import Derived.Test.YtdojfommmpnbgaaGreatDoorKBA
namespace Go.Proofs.YtdojfommmpnbgaaGreatDoor
open Go.RowKit
def Gk(L:af)(k:Int):Prop:=ae (aa L k) [40]=true→k+1<(L.length:Int)∧(ae (aa L (k+1)) [102,110]=true→fm L 0 k≠-1)
def Gx(L:af)(i x:Int):Prop:=x=-1∨∀k,i≤k→k<x→Gk L k
section
variable {L:af} {i j x:Int}
theorem sI(h:ae (aa L i) [40]=false):Gk L i:=fun ho=>by rw[h]at ho;cases ho
theorem vl(h1:i+1<(L.length:Int))(h2:ae (aa L (i+1)) [102,110]=false):Gk L i:=fun _=>⟨h1,fun h=>by rw[h2]at h;cases h⟩
theorem te{s:ByteArray}(h:aV s=true):ae s [102,110]=false:=by
 cases hc:ae s [102,110]
 ·rfl
 ·rw[aZ hc]at h;exact absurd h (by decide +kernel)
theorem lV:Gx L i i:=Or.inr fun k h1 h2=>absurd h2 (by omega)
theorem qG:Gx L i (-1):=Or.inl rfl
theorem FZ{c:Prop}[Decidable c]{y:Int}(h1:Gx L i x)(h2:Gx L i y):Gx L i (if c then x else y):=by split<;>assumption
theorem Gx.trans{y:Int}(h:Gx L i x)(hn:x=-1→y=-1)(k:Gx L x y):Gx L i y:=by
 rcases h with h|h
 ·exact Or.inl (hn h)
 ·rcases k with k|k
  ·exact Or.inl k
  ·exact Or.inr fun j h1 h2=>if hj:j<x then h j h1 hj else k j (by omega) h2
theorem qF(h:Gx L i x)(hx:x≠-1)(hg:Gk L x):Gx L i (x+1):=by
 rcases h with h|h
 ·exact absurd h hx
 ·refine Or.inr fun k h2 h3=>?_
  by_cases hk:k<x
  ·exact h k h2 hk
  ·have:k=x:=by omega
   subst this;exact hg
theorem kL(h:Gx L i x):Gx L i (aK L x [41]):=by
 by_cases hn:aK L x [41]=-1
 ·exact Or.inl hn
 ·obtain⟨he,h0,h1,hb⟩:=gM (by decide) hn;rw[he];exact qF h (by omega) (sI (aQ hb (by decide)))
theorem Ai(hg:Gk L x)(h:Gx L i x):Gx L i (aK L x [40]):=by
 by_cases hn:aK L x [40]=-1
 ·exact Or.inl hn
 ·obtain⟨he,h0,h1,hb⟩:=gM (by decide) hn;rw[he];exact qF h (by omega) hg
theorem oZ(h:Gx L i x):Gx L i (aU L x):=by
 by_cases hn:aU L x=-1
 ·exact Or.inl hn
 ·obtain⟨he,h0,h1,hb⟩:=jF hn;rw[he];exact qF h (by omega) (sI (dD hb).1)
theorem Ah(hG:Gk L i)(hp:Gk L (i+1))(h:Gx L (i+2) x):Gx L i x:=by
 rcases h with h|h
 ·exact Or.inl h
 ·refine Or.inr fun k h2 h3=>?_
  by_cases h4:k=i
  ·subst h4;exact hG
  ·by_cases h5:k=i+1
   ·subst h5;exact hp
   ·exact h k (by omega) h3
def Cl(L:af)(j:Int):Prop:=∀m x,m≤11→Fw L j x→Gx L x (fm L m x)
theorem Cl.go(hr:Cl L j){m:Nat}(hm:m≤11)(hF:Fw L j x)(h:Gx L i x):Gx L i (fm L m x):=h.trans (fun e=>by rw[e];exact gu m hm) (hr m x hm hF)
theorem Ag(h:aH L i)(ho:ae (aa L i) [40]=true)(hf:ae (aa L (i+1)) [102,110]=true→fm L 0 i≠-1):Gk L i∧Gk L (i+1):=by
 have hp:=h.plain ho;obtain⟨hit,k,e,hch,he0,he1,_,_⟩:=h.parts ho;have hk:=bK k _ hch he0;exact⟨fun _=>⟨by omega,hf⟩,sI hp.1⟩
theorem FV(h:aH L i)(ho:ae (aa L i) [40]=true)(hc:ae (aa L (i+1)) [102,110]=true):Gk L (i+2):=by
 obtain⟨_,k,e7,_,_,hq,h0,h1,h41,_⟩:=h.fn ho hc;have hk:=gJ k _ hq h0;refine vl (by omega) ?_;rw[show i+2+1=i+3 by omega];cases k with
 |zero =>
  have e1:i+3=e7:=hq;rw[e1];exact aQ h41 (by decide)
 |succ k =>
  rcases (jY hq.1).2.2 with⟨p1,_⟩|⟨_,p2,_⟩
  ·exact aQ p1 (by decide)
  ·exact te p2
theorem MN(hr:Cl L (i+2)):Gx L i (bR L (fm L) i):=by
 by_cases hne:bR L (fm L) i=-1
 ·exact Or.inl hne
 rw[←ln]at hne;have hv:aH L i:=Or.inl hne;cases ho:ae (aa L i) [40]
 ·unfold bR;rw[ho];simp only[Bool.false_eq_true,if_false];split
  ·exact qF lV (by have:=hv.ends;omega) (sI ho)
  ·exact qG
 ·obtain⟨g0,g1⟩:=Ag hv ho (fun _=>hne);obtain⟨h0,h1⟩:=bF ho;refine Ah g0 g1 ?_;have hg:=gr L;have hs:Fw L (i+2) (i+2):=iW (by omega);have ha:Gx L (i+2) (i+2):=lV;unfold bR;rw[ho];simp only[if_true];split
  ·exact kL (hr.go (by decide) hs ha)
  ·split
   ·rename_i hf;have g2:=FV hv ho hf;have F7:=(fT (c:=[40]) (by decide) hs).I;have F6:=(fT (c:=[41]) (by decide) (hg.I (m:=7) (by decide) F7)).I;exact kL (hr.go (by decide) F6 (kL (hr.go (by decide) F7 (Ai g2 ha))))
   ·split
    ·exact kL (hr.go (by decide) (hg.ends (m:=0) (by decide) hs).I (hr.go (by decide) hs ha))
    ·split
     ·exact kL (hr.go (by decide) hs ha)
     ·split
      ·exact kL ha
      ·split
       ·exact kL (hr.go (by decide) (eD hs).I (oZ ha))
       ·exact qG
theorem zn(f:Bool)(hr:Cl L (i+2)):Gx L i (dB L (fm L) f i):=by
 by_cases hne:dB L (fm L) f i=-1
 ·exact Or.inl hne
 have hd:fm L 1 i≠-1:=by
  cases f
  ·rw[←nJ]at hne;rw[wU hne];exact hne
  ·rw[←ll]at hne;exact hne
 have hv:aH L i:=Or.inr hd;have ho:=lR hd;obtain⟨h0,h1⟩:=bF ho;obtain⟨g0,g1⟩:=Ag hv ho (fun hf=>by
  exfalso;have he:=sk hd;rw[aZ hf]at he;exact hd (he.trans (by unfold bp;simp[aS])))
 have hg:=gr L;have hs:Fw L (i+2) (i+2):=iW (by omega);have ha:Gx L (i+2) (i+2):=lV;refine Ah g0 g1 ?_;unfold dB;rw[if_pos ho];split
 ·exact qG
 ·cases ht:ae (aa L (i+1)) [116,97,107,101]
  ·unfold bp;rw[ht];simp only[Bool.false_eq_true,if_false];repeat' (first|exact qG|with_reducible refine FZ ?_ ?_|exact hs|exact ha|refine kL ?_|refine oZ ?_|refine hr.go (by decide) ?_ ?_|refine hg.I (by decide) ?_|refine hg.ends (by decide) ?_|refine fT (by decide) ?_|refine eD ?_|refine Ends.I ?_)
  ·obtain⟨t1,t2,t3,t4,t5,t6⟩:=mo hd (aZ ht);have g2:Gk L (i+2):=vl (by omega) (by rw[show i+2+1=i+3 by omega];exact te (t4 (i+3) (Int.le_refl _) (by omega)));rw[aZ ht,sj];have F4:=(fT (c:=[40]) (by decide) hs).I;have F5:=(eD (L:=L) F4).I;have F0:=(fT (c:=[41]) (by decide) (hg.I (m:=5) (by decide) F5)).I;exact kL (hr.go (by decide) F0 (kL (hr.go (by decide) F5 (oZ (Ai g2 ha)))))
theorem Km(hr:Cl L (i+1)):Gx L i (eG L (fm L) i):=by
 by_cases hne:eG L (fm L) i=-1
 ·exact Or.inl hne
 rw[←nK]at hne;obtain⟨h0,h1,hpp⟩:=jY hne;unfold eG;rcases hpp with⟨q1,q2,q3,_⟩|⟨q1,q2,_⟩
 ·rw[if_pos q1];have hs:Fw L (i+1) (i+1):=iW (by omega);have ha:Gx L i (i+1):=qF lV (by omega) (vl q3 (te q2));exact kL (hr.go (by decide) (eD hs).I (oZ ha))
 ·rw[if_neg (by rw[q1];decide)];exact oZ lV
end
theorem xO(L:af):∀n m i,m≤11→-1≤i→i≤(L.length:Int)+1→cM L m i≤n→Gx L i (fm L m i)
 |0,m,i,hm,_,_,h=>by have:=(iL (L:=L) m hm i).1;omega
 |n+1,m,i,hm,i0,i1,h=>by
  have IH:=xO L n;have hg:=gr L;have hnl:=iL (L:=L) m hm i;have key:∀j,i<j→j≤i+2→0≤i→i<(L.length:Int)→Cl L j:=fun j hj hj2 h0 h1 q x hq hF=>by
   have hf:=sD h0 (by omega) hj hF;have hq':=iL (L:=L) q hq x;refine IH q x hq ?_ ?_ (by omega);all_goals unfold Fw at hF;omega
  by_cases hin:0≤i∧i<(L.length:Int)
  ·obtain⟨h0,h1⟩:=hin;by_cases c0:m=0
   ·subst c0;rw[ln];exact MN (key (i+2) (by omega) (by omega) h0 h1)
   by_cases c1:m=1
   ·subst c1;rw[ll];exact zn true (key (i+2) (by omega) (by omega) h0 h1)
   by_cases c2:m=2
   ·subst c2;rw[nJ];exact zn false (key (i+2) (by omega) (by omega) h0 h1)
   by_cases c3:m=3
   ·subst c3;rw[nK];exact Km (key (i+1) (by omega) (by omega) h0 h1)
   by_cases c8:m<8
   ·obtain⟨q,rfl⟩:∃q,m=4+q:=⟨m-4,by omega⟩;unfold cM at h;rw[if_neg (by omega),if_pos (by omega)]at h;rw[jB q (by omega) i0 i1];unfold eC;split
    ·exact lV
    ·have hpos:1≤aB L i:=by unfold aB;rw[if_neg (by omega)];omega
     have ho:Gx L i (fX L (fm L) q i):=by
      unfold fX;split
      ·exact IH 0 i (by decide) i0 i1 (by unfold cM;rw[if_pos (by decide)];omega)
      ·split
       ·exact oZ lV
       ·split
        ·exact IH 1 i (by decide) i0 i1 (by unfold cM;rw[if_pos (by decide)];omega)
        ·exact IH 3 i (by decide) i0 i1 (by unfold cM;rw[if_pos (by decide)];omega)
     have hE:=mR hg q i0;generalize fX L (fm L) q i=y at ho hE;have hfe:=gV hE i1;unfold Ends at hE;exact ho.trans (fun e=>by rw[e];exact gu _ hm) (IH (4+q) y hm (by omega) (by omega) (by unfold cM;rw[if_neg (by omega),if_pos (by omega)];omega))
   ·obtain⟨k,rfl⟩:∃k,m=8+k:=⟨m-8,by omega⟩;unfold cM at h;rw[if_neg (by omega),if_neg (by omega)]at h;rw[qB k (by omega) i0 i1];cases k with
    |zero=>exact lV
    |succ k =>
     show Gx L i (if i<0 then i else fm L (8+k) (fm L 0 i));rw[if_neg (by omega)];have ho:=IH 0 i (by decide) i0 i1 (by unfold cM;rw[if_pos (by decide)];omega);have hE:=hg.1 0 i (by decide);generalize fm L 0 i=y at ho hE;have hfe:=gV hE i1;unfold Ends at hE;exact ho.trans (fun e=>by rw[e];exact gu _ (by omega)) (IH (8+k) y (by omega) (by omega) (by omega) (by unfold cM;rw[if_neg (by omega),if_neg (by omega)];omega))
  ·have hx:fm L m i=-1∨fm L m i=i:=by
    by_cases h4:m<4
    ·have hE:=hg.1 m i h4;unfold Ends at hE;omega
    ·have hE:=hg.2 m i (by omega) i0;unfold Fw at hE;omega
   rcases hx with hx|hx
   ·rw[hx];exact qG
   ·rw[hx];exact lV
theorem zv{L:af}{e:Int}:∀k i,ey L k i e→0≤e→∀j,i≤j→j<e→Gk L j
 |0,i,h,_,j,h1,h2=>by
  have:i=e:=h;omega
 |k+1,i,h,he,j,h1,h2=>by
  have hl:=fR h.1;by_cases hj:j<fm L 1 i
  ·have hn:=iL (L:=L) 1 (by decide) i;rcases xO L _ 1 i (by decide) (by omega) (by omega) (Nat.le_refl _)with hx|hx
   ·exact absurd hx h.1
   ·exact hx j h1 hj
  ·exact zv k _ h.2 he j (by omega) h2
theorem wJ{L:af}(h:aR L=true)(j:Int)(h0:0≤j)(h1:j<(L.length:Int)):Gk L j:=by
 obtain⟨k,hk⟩:=mX h;exact zv k 0 hk (by omega) j h0 h1
theorem CB(Y:af):(dp [] Y).isEmpty=Y.isEmpty:=by
 cases Y with
 |nil=>rfl
 |cons y Y =>
  have h:y∈dp [] (y::Y):=(rq (y::Y) [] y).mpr (Or.inr (List.mem_cons_self ..));cases hq:dp [] (y::Y)with
  |nil=>rw[hq]at h;cases h
  |cons z Z=>rfl
theorem LV(L:af):(aR L&&((eO L).fr.isEmpty&&((eO L).sc.isEmpty&&!(eO L).bad)))=iO L:=by
 unfold iO fS Ot.plus;simp only[Ot.none,Bool.false_or];rw[CB,CB]
end Go.Proofs.YtdojfommmpnbgaaGreatDoor
