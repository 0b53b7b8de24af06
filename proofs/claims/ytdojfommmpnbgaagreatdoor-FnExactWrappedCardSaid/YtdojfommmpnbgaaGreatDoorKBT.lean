import Derived.Test.YtdojfommmpnbgaaGreatDoorKBK
import Derived.Test.YtdojfommmpnbgaaGreatDoorKBN
import Derived.Test.YtdojfommmpnbgaaGreatDoorKBS
set_option maxHeartbeats 4000000
namespace Go.Proofs.YtdojfommmpnbgaaGreatDoor
open Go.RowKit
noncomputable def gl(L:af):List (Int × Int)→List (Int × Int)→List (Int × Int)
 |[],_=>[]
 |s::S,F=>if bM s.1 F (-1)<bM s.1 (fi L) (-1)then s::gl L S (F++[s])else gl L S F
noncomputable def nE(L:af):List (Int × Int):=gl L (dy L) (eQ L)
noncomputable def aL(L:af):List Int:=(nE L).map Prod.fst
noncomputable def cr(L:af)(d:Int):Bool:=(aL L).any fun x=>d==x
def pW(S:List (Int × Int)):Prop:=S.Pairwise fun s t=>s.1<t.1
theorem nF(L:af):∀S F,(gl L S F).Sublist S
 |[],_=>List.Sublist.refl _
 |s::S,F=>by
  unfold gl;split
  ·exact(nF L S _).cons_cons s
  ·exact(nF L S F).cons s
theorem vt(p:Int):∀(R F:List (Int × Int)) (m:Int),(∀t∈R,fF t p=false)→bM p (F++R) m=bM p F m
 |[],F,m,_=>by rw[List.append_nil]
 |t::R,F,m,h=>by
  rw[show F++t::R=(F++[t])++R by simp,vt p R (F++[t]) m fun u hu=>h u (List.mem_cons_of_mem _ hu),Aq,h t (List.mem_cons_self ..)];rfl
theorem xW{t:Int × Int}{p:Int}(h:p≤t.1):fF t p=false:=by
 cases hc:fF t p
 ·rfl
 ·have:=((rY t p).1 hc).1;omega
theorem sv(L:af):∀S F,pW S→∀s∈S,s∈gl L S F↔bM s.1 (F++gl L S F) (-1)<bM s.1 (fi L) (-1)
 |[],_,_,s,hs=>by cases hs
 |h::S,F,hR,s,hs=>by
  obtain⟨r1,r2⟩:=List.pairwise_cons.1 hR;have hsub:=(nF L S (F++[h])).subset;have hsub2:=(nF L S F).subset;rcases List.mem_cons.mp hs with rfl|hs
  ·have h1:bM s.1 ((F++[s])++gl L S (F++[s])) (-1)=bM s.1 F (-1):=by
    rw[List.append_assoc];refine vt _ _ _ _ fun t ht=>xW ?_
    rcases List.mem_append.mp ht with ht|ht
    ·rw[List.mem_singleton]at ht;rw[ht];exact Int.le_refl _
    ·have:=r1 t (hsub ht);omega
   have h2:bM s.1 (F++gl L S F) (-1)=bM s.1 F (-1):=vt _ _ _ _ fun t ht=>xW (by have:=r1 t (hsub2 ht);omega)
   unfold gl
   split
   ·rename_i hc;rw[show F++s::gl L S (F++[s])=(F++[s])++gl L S (F++[s]) by simp,h1];exact⟨fun _=>hc,fun _=>List.mem_cons_self ..⟩
   ·rename_i hc;rw[h2];refine⟨fun hm=>?_,fun hh=>absurd hh hc⟩;have:=r1 s (hsub2 hm);omega
  ·have hne:=r1 s hs;unfold gl;split
   ·rename_i hc;rw[show F++h::gl L S (F++[h])=(F++[h])++gl L S (F++[h]) by simp,←sv L S (F++[h]) r2 s hs,List.mem_cons];refine⟨fun hm=>hm.resolve_left fun e=>?_,Or.inr⟩;rw[e]at hne;omega
   ·exact sv L S F r2 s hs
theorem Dc(L H:af):∀k,pW (bN L H k)
 |0=>List.Pairwise.nil
 |k+1=>by
  show pW (bN L H k++_);unfold pW;rw[List.pairwise_append];refine⟨Dc L H k,by split<;>simp,fun s hs t ht=>?_⟩;have h1:=(j5 L H s k).mp hs;split at ht
  ·rw[List.mem_singleton]at ht;subst ht;exact h1.2.1
  ·cases ht
theorem Ha(L:af)(ys:List (Int × Int)):((dZ L ys.reverse).2).Sublist ys.reverse:=by
 induction ys with
 |nil=>exact List.Sublist.refl _
 |cons y ys ih =>
  rw[List.reverse_cons,sR];split
  ·exact ih.append_right [y]
  ·exact ih.trans (List.sublist_append_left _ _)
theorem vJ(L:af):(dy L).Sublist (dQ L):=by
 have h:=Ha L (dQ L);have h2:=h.reverse;rwa [List.reverse_reverse]at h2
theorem vI(L:af):pW (dy L):=List.Pairwise.sublist (vJ L) (Dc L [bx] L.length)
theorem uL(L:af):(aL L).length≤L.length:=by
 unfold aL;rw[List.length_map];have h1:=(nF L (dy L) (eQ L)).length_le;have h2:=(vJ L).length_le;have h3:=nc L [bx] L.length;unfold nE;unfold dQ at h2;omega
theorem mq(L:af)(d:Int):cr L d=true↔∃s∈nE L,s.1=d:=by
 unfold cr aL;rw[List.any_eq_true];constructor
 ·rintro⟨x,hx,e⟩;obtain⟨s,hs,rfl⟩:=List.mem_map.mp hx;exact⟨s,hs,(beq_iff_eq.1 e).symm⟩
 ·rintro⟨s,hs,rfl⟩;exact⟨s.1,List.mem_map.mpr ⟨s,hs,rfl⟩,by simp⟩
theorem qo{L:af}{s:Int × Int}(h:s∈nE L):s∈dy L∧s∈dQ L:=by
 have h1:=(nF L (dy L) (eQ L)).subset h;exact⟨h1,(vJ L).subset h1⟩
theorem kn{L:af}{d:Int}(h:cr L d=true):bU L d=true:=by
 obtain⟨s,hs,rfl⟩:=(mq L d).1 h;have:=((j5 L [bx] s L.length).1 (qo hs).2).2.2.1;rwa [pO]at this
def np(L:af)(D:Int→Bool)(p:Int):Prop:=∃q,bH L q p∧dS L q=true∧∀q',bH L q' p→(dt L q'||D q')=true→q'<q
open Classical in
noncomputable def fI(L:af)(D:Int→Bool)(p:Int):Bool:=decide (np L D p)
section
variable {L:af} {D:Int→Bool} {i j e x q k:Int}
theorem s6(h:np L D i):fI L D i=true:=by
 unfold fI;simpa using h
theorem pv(h:¬np L D i):fI L D i=false:=by
 unfold fI;simpa using h
theorem IJ(h:np L D i↔np L D k):fI L D i=fI L D k:=by
 by_cases hc:np L D i
 ·rw[s6 hc,s6 (h.1 hc)]
 ·rw[pv hc,pv (fun hk=>hc (h.2 hk))]
theorem IK{m:Nat}(hc:bd L m 0 e)(he0:0≤e)(hk:k∈ar L m 0):fI L D k=false :=
 pv fun ⟨_,a,_⟩=>ui hc he0 hk a
section
variable {m:Nat} (ho:ae (aa L i) [40]=true) (hc:bd L m (i+1) e) (he0:0≤e) (hit:ag L i=e+1) (hk:k∈ar L m (i+1))
include ho hc he0 hit hk
theorem Bg(hf:(dt L i||D i)=true)(hl:dS L i=false):fI L D k=false:=by
 refine pv ?_;rintro⟨q,a,b,c⟩;have h1:=c i ((eg ho hc he0 hit hk).2 (Or.inr rfl)) hf;rcases (eg ho hc he0 hit hk).1 a with h2|rfl
 ·have:=h2.2.1;omega
 ·rw[hl]at b;cases b
theorem IG(hf:(dt L i||D i)=false)(hl:dS L i=true):fI L D k=true:=by
 refine s6 ⟨i,(eg ho hc he0 hit hk).2 (Or.inr rfl),hl,fun q' a b=>?_⟩;rcases (eg ho hc he0 hit hk).1 a with h2|rfl
 ·exact h2.2.1
 ·rw[hf]at b;cases b
theorem IF(hf:(dt L i||D i)=false)(hl:dS L i=false):fI L D k=fI L D i:=by
 refine IJ ⟨?_,?_⟩
 ·rintro⟨q,a,b,c⟩;rcases (eg ho hc he0 hit hk).1 a with h2|rfl
  ·exact⟨q,h2,b,fun q' a' b'=>c q' ((eg ho hc he0 hit hk).2 (Or.inl a')) b'⟩
  ·rw[hl]at b;cases b
 ·rintro⟨q,a,b,c⟩;refine⟨q,(eg ho hc he0 hit hk).2 (Or.inl a),b,fun q' a' b'=>?_⟩;rcases (eg ho hc he0 hit hk).1 a' with h2|rfl
  ·exact c q' h2 b'
  ·rw[hf]at b';cases b'
end
theorem Gu(L:af)(p:Int):decide (bM p (eQ L++nE L) (-1)<bM p (fi L) (-1))=fI L (cr L) p:=by
 obtain⟨f1,f2,f3⟩:=sK p (eQ L++nE L) (-1);obtain⟨l1,l2,l3⟩:=sK p (fi L) (-1);by_cases hc:bM p (eQ L++nE L) (-1)<bM p (fi L) (-1)
 ·rw[decide_eq_true hc];rcases l2 with l2|⟨s,a,b,c⟩
  ·omega
  ·obtain⟨d1,d2,d3⟩:=p8 a c;rw[Db,Bool.and_eq_true]at d2;refine(s6 ⟨s.1,d1,d2.2,fun q' hq hf=>?_⟩).symm;rw[Bool.or_eq_true]at hf;rcases hf with hf|hf
   ·obtain⟨e1,e2⟩:=tK (H:=[bG]) hq (by rw[tL,hq.1,hf];rfl);have:=f3 _ (List.mem_append_left _ e1) e2;simp only at this;omega
   ·obtain⟨t,ht,rfl⟩:=(mq L q').1 hf;have hm:=(j5 L [bx] t L.length).1 (qo ht).2;have e2:fF t p=true:=(rY _ _).2 ⟨hq.2.1,by rw[hm.2.2.2];exact hq.2.2⟩;have:=f3 t (List.mem_append_right _ ht) e2;omega
 ·rw[decide_eq_false hc];refine(pv ?_).symm;rintro⟨q,a,b,c⟩;obtain⟨e1,e2⟩:=tK (H:=[mr,lT]) a (by rw[Db,a.1,b];rfl);have h1:=l3 _ e1 e2;simp only at h1;rcases f2 with f2|⟨s,d1,d2,d3⟩
  ·have:=(bF a.1).1;omega
  ·rcases List.mem_append.mp d1 with d1|d1
   ·obtain⟨g1,g2,g3⟩:=p8 d1 d3;rw[tL,Bool.and_eq_true]at g2;have:=c s.1 g1 (by rw[g2.2];rfl);omega
   ·obtain⟨g1,g2,g3⟩:=p8 (qo d1).2 d3;have:=c s.1 g1 (by rw[(mq L s.1).2 ⟨s,d1,rfl⟩,Bool.or_true]);omega
theorem zG(hp:aR L=true){d:Int}:cr L d=true↔(bU L d=true∧fG L d.toNat=true∧fI L (cr L) d=true):=by
 rw[←Gu L d,decide_eq_true_eq];constructor
 ·intro h;obtain⟨s,hs,rfl⟩:=(mq L d).1 h;refine⟨kn h,((A1 hp s).1 (qo hs).1).2,?_⟩;exact(sv L (dy L) (eQ L) (vI L) s (qo hs).1).1 hs
 ·rintro⟨h1,h2,h3⟩;have ho:=bF (eM h1).1;have hm:(d,ag L d)∈dy L:=(A1 hp _).2 ⟨(j5 L [bx] _ L.length).2 ⟨ho.1,ho.2,by rw[pO];exact h1,rfl⟩,h2⟩;exact(mq L d).2 ⟨_,(sv L (dy L) (eQ L) (vI L) _ hm).2 h3,rfl⟩
end
def aX(X:List Int)(p:Int):Nat:=(X.filter fun x=>decide (x<p)).length
theorem uy:∀(X:List Int) (d:Int),X.Pairwise (·<·)→d∈X→X[aX X d]?=some d
 |[],_,_,h=>by cases h
 |x::X,d,hR,h=>by
  obtain⟨r1,r2⟩:=List.pairwise_cons.1 hR;rcases List.mem_cons.mp h with rfl|h
  ·have:aX (d::X) d=0:=by
    unfold aX;rw[List.length_eq_zero_iff,List.filter_eq_nil_iff];intro y hy;rcases List.mem_cons.mp hy with rfl|hy
    ·simp
    ·have:=r1 y hy;simp;omega
   rw[this]
   rfl
  ·have hx:=r1 d h;have:aX (x::X) d=aX X d+1:=by
    unfold aX;rw[List.filter_cons,if_pos (by simpa using hx)];rfl
   rw[this,List.getElem?_cons_succ];exact uy X d r2 h
theorem uz:∀(X:List Int) (p:Int),X.Pairwise (·<·)→aX X (p+1)=aX X p+(if(X.any fun x=>p==x)=true then 1 else 0)
 |[],_,_=>rfl
 |x::X,p,hR=>by
  obtain⟨r1,r2⟩:=List.pairwise_cons.1 hR;have ih:=uz X p r2;unfold aX at ih ⊢;rw[List.filter_cons,List.filter_cons,List.any_cons];by_cases h1:x<p
  ·rw[if_pos (by simp;omega),if_pos (by simpa using h1),show(p==x)=false by simp;omega,Bool.false_or,List.length_cons,List.length_cons,ih];omega
  ·have h0:X.filter (fun x=>decide (x<p))=[]:=by
    rw[List.filter_eq_nil_iff];intro y hy;have:=r1 y hy;simp;omega
   by_cases h2:x=p
   ·subst h2;have h3:X.any (fun y=>x==y)=false:=by
     rw[List.any_eq_false];intro y hy;have:=r1 y hy;simp;omega
    rw[h3]at ih;rw[if_pos (by simp;omega),if_neg (by simp),List.length_cons,ih,show(x==x)=true by simp];simp
   ·rw[if_neg (by simp;omega),if_neg (by simpa using h1),show(p==x)=false by simp;omega,Bool.false_or,ih]
theorem zY(X:af):∀(j k k' n:Nat),j<k→j<k'→(bL X k n)[j]?=(bL X k' n)[j]?
 |0,k+1,k'+1,n,_,_=>rfl
 |j+1,k+1,k'+1,n,h,h'=>by
  show(vN (cO X n)::bL X k (cO X n+1))[j+1]?=(vN (cO X n)::bL X k' (cO X n+1))[j+1]?;rw[List.getElem?_cons_succ,List.getElem?_cons_succ];exact zY X j k k' _ (by omega) (by omega)
theorem N2(n:Nat):bB (vN n):=by
 have h:(vN n).toList=118::Lib.decDigits n:=bE _;unfold bB ae;rw[h];exact⟨rfl,rfl⟩
theorem zX(X:af):∀k n,∀s∈bL X k n,bB s
 |0,_,s,h=>by cases h
 |k+1,n,s,h=>by
  rcases List.mem_cons.mp h with rfl|h
  ·exact N2 _
  ·exact zX X k _ s h
noncomputable def ji(L:af)(d:Int):ByteArray:=((bL (bJ L) 2001 0)[aX (aL L) d]?).getD cl
theorem EY(L:af)(d:Int):bB (ji L d):=by
 unfold ji;cases h:(bL (bJ L) 2001 0)[aX (aL L) d]? with
 |none=>exact rj
 |some s=>exact zX _ _ _ _ (List.mem_of_getElem? h)
theorem qp(L:af):(aL L).Pairwise (·<·):=by
 unfold aL;rw[List.pairwise_map];exact List.Pairwise.sublist (nF L (dy L) (eQ L)) (vI L)
theorem uK{L:af}{d:Int}(h:cr L d=true):d∈aL L:=by
 unfold cr at h;rw[List.any_eq_true]at h;obtain⟨x,hx,e⟩:=h;rw[beq_iff_eq]at e;rwa [e]
theorem zD{L:af}{d:Int}(hL:L.length≤2000)(h:cr L d=true)(k:Nat)(hk:(aL L).length≤k):aX (aL L) d<(aL L).length∧(aL L)[aX (aL L) d]?=some d∧(bL (bJ L) k 0)[aX (aL L) d]?=some (ji L d):=by
 have h1:=uy _ d (qp L) (uK h);have h2:aX (aL L) d<(aL L).length:=(List.getElem?_eq_some_iff.1 h1).1;have h3:=uL L;refine⟨h2,h1,?_⟩;have h4:aX (aL L) d<(bL (bJ L) 2001 0).length:=by rw[oW];omega
 unfold ji;rw[zY _ _ k 2001 0 (by omega) (by omega),List.getElem?_eq_getElem h4];rfl
noncomputable def wV(L:af)(m:Nat)(i:Int):af:=vF L (cr L) (ji L) (L.length+2) m i
noncomputable def gQ(L:af):af:=if iO L=true∧aR ((aT L 0).flatMap (wV L 0))=true then(aT L 0).flatMap (wV L 0)else []
end Go.Proofs.YtdojfommmpnbgaaGreatDoor
namespace Go.Proofs.YtdojfommmpnbgaaGreatDoor
open Go.RowKit Go.Proofs.Tryz
structure jd (w:World) (a1 av:Option Addr) (L:af) (S F:List (Int × Int)) (X:List Int) (vf vo:Value) (k:Nat) (W:World):Prop where
 bel:ai w W
 lp:dr W a1 (fi L)
 sp:dr W av S
 fs:dP W w.heap.size vf F
 xs:bY W w.heap.size vo X
 n1:∀p,a1=some p→p.block<W.heap.size∧vf.ownBlock≠some p.block∧vo.ownBlock≠some p.block
 n2:∀p,av=some p→p.block<W.heap.size∧vf.ownBlock≠some p.block∧vo.ownBlock≠some p.block
 fl:F.length≤2000+k
 xl:X.length≤k
 xx:X++(gl L (S.drop k) F).map Prod.fst=aL L
section
variable {w:World} {a1 av:Option Addr} {L:af} {S F:List (Int × Int)} {X:List Int} {vf vo:Value} {k:Nat} {W W':World}
theorem jd.grow(h:jd w a1 av L S F X vf vo k W)(hb:ai W W'):jd w a1 av L S F X vf vo k W' :=
 { h with bel:=aw h.bel hb,lp:=h.lp.call hb,sp:=h.sp.call hb,fs:=bO h.fs hb,xs:=bO h.xs hb,n1:=fun p e=>⟨Nat.lt_of_lt_of_le (h.n1 p e).1 hb.size,(h.n1 p e).2⟩,n2:=fun p e=>⟨Nat.lt_of_lt_of_le (h.n2 p e).1 hb.size,(h.n2 p e).2⟩ }
theorem jd.next(h:jd w a1 av L S F X vf vo k W)(hk:k<S.length)(hn:¬bM S[k].1 F (-1)<bM S[k].1 (fi L) (-1)):jd w a1 av L S F X vf vo (k+1) W:=by
 have hx:=h.xx;rw[List.drop_eq_getElem_cons hk]at hx;unfold gl at hx;rw[if_neg hn]at hx;exact { h with fl:=by have:=h.fl;omega,xl:=by have:=h.xl;omega,xx:=hx }
theorem jd.yes(h:jd w a1 av L S F X vf vo k W)(hk:k<S.length)(hn:bM S[k].1 F (-1)<bM S[k].1 (fi L) (-1)):(X++[S[k].1])++(gl L (S.drop (k+1)) (F++[S[k]])).map Prod.fst=aL L:=by
 have:=h.xx;rw[List.drop_eq_getElem_cons hk]at this;unfold gl at this;rw[if_pos hn]at this;rw[←this];simp
theorem jd.O5(h:jd w a1 av L S F X vf vo k W){w1:World}{v':Value}{s:Int × Int}(hown:w1.ownsRow w.heap.size 64 2 v' (F.length+1) (jk F++[.int .i64 s.1,.int .i64 s.2]))(hgrow:W.grownBy w1 vf.ownBlock)(hloc:∀g,v'.ownBlock=some g→vf.ownBlock=some g∨g=W.heap.size) :
  dP w1 w.heap.size v' (F++[s])∧bY w1 w.heap.size vo X∧dr w1 a1 (fi L)∧dr w1 av S∧ai w w1∧(∀p,a1=some p→v'.ownBlock≠some p.block)∧(∀p,av=some p→v'.ownBlock≠some p.block):=by
 refine⟨by unfold dP;rw[qy,List.length_append];exact hown,cR h.xs (fun g hg=>hgrow.block g (World.ownsRow.lt h.xs g hg).2 (fun e=>rA h.xs h.fs (by decide) hg e.symm)),pN h.lp hgrow (fun p e=>(h.n1 p e).2.1),pN h.sp hgrow (fun p e=>(h.n2 p e).2.1),h.bel.grown hgrow (h.bel.size) (fun g hg=>(World.ownsRow.lt h.fs g hg).1),fun p e e2=>?_,fun p e e2=>?_⟩
 ·rcases hloc _ e2 with e3|e3
  ·exact(h.n1 p e).2.1 e3
  ·have:=(h.n1 p e).1;omega
 ·rcases hloc _ e2 with e3|e3
  ·exact(h.n2 p e).2.1 e3
  ·have:=(h.n2 p e).1;omega
end
set_option maxRecDepth 100000 in
set_option maxHeartbeats 4000000 in
theorem EV(a:Option Addr)(cap:Nat)(L:af)(w:World)(ht:dj w)(h:aD w a L)(hpl:aR L=true) :
  ah 20 #[.slice a L.length cap] w fun e w'=>∃v,e=.returned v∧bY w' w.heap.size v (aL L)∧ai w w':=by
 have hsg:=rn hpl;have hl2:=gy hpl;have hktl:(dy L).length≤2000:=by
  unfold dy;rw[List.length_reverse];have h1:=(vH L (dQ L).reverse).2;have h2:=nc L [bx] L.length;rw[List.length_reverse]at h1;unfold dQ at h1 ⊢;omega
 have hfl:(eQ L).length≤2000:=by have:=nc L [bG] L.length;unfold eQ;omega
 have hll:(fi L).length≤2000:=by have:=nc L [mr,lT] L.length;unfold fi;omega
 have HLO:Hid (∀W:World,aD W a L→ah 35 #[.slice a L.length cap] W fun e w'=>∃v,e=.returned v∧dP w' W.heap.size v (fi L)∧ai W w'):=fun W hW=>It a cap L W hW hpl hsg
 have HSP:Hid (∀(s:ByteArray) (W:World),aD W a L→ah 36 #[.slice a L.length cap,.slice (some ⟨W.heap.size,0,none⟩) 1 1] (W.alloc (.cells #[.string s] 9)) fun e w'=>∃v,e=.returned v∧dP w' (W.heap.size+1) v (bN L [s] L.length)∧ai W w'):=fun s W hW=>by
  have hB:=ay (Below.refl W.heap.size W) (.cells #[.string s] 9);refine(tJ a cap L W.heap.size 0 1 [s] _ (hW.call hB) hpl hsg (BY W s) (by simp) (by simp)).mono ?_;rintro e w' ⟨v,rfl,hO,hb⟩;rw[World.size_alloc]at hO;exact⟨v,rfl,hO,aw hB hb⟩
 have HKD:Hid (∀W:World,ai w W→ah 37 #[.slice a L.length cap] W fun e W'=>∃av cv,e=.returned (.slice av (dy L).length cv)∧dr W' av (dy L)∧(∀p,av=some p→W.heap.size≤p.block∧p.block<W'.heap.size)∧ai W W'):=fun W hW=>G0 a cap L W (ig ht hW) (h.call hW) hpl
 obtain⟨i0,hi,hz0,hz1,hz2⟩:=info_parts vr;obtain⟨j0,gi,gz0,gz1,gz2⟩:=info_parts qM;go_enter func20,ntmps20;go_wp2_with fail;refine(HLO.out _ h).mono ?_;rintro e w2 ⟨v1,rfl,hO1,hb2⟩;obtain⟨a1,c1,rfl,hA1⟩:=hO1.arg;go_wp2_with fail;refine(HSP.out bG _ (h.call hb2)).mono ?_;rintro e w3 ⟨v2,rfl,hO2,hb3⟩;have hB3:=aw hb2 hb3;have hfe:bN L [bG] L.length=eQ L:=rfl;rw[hfe]at hO2;clear hfe;obtain⟨w4,hw4⟩:∃w4,w4=w3.alloc (.cells #[] 2):=⟨_,rfl⟩;have hb4:ai w3 w4:=by rw[hw4];exact ay (Below.refl _ _) _
 have hX4:bY w4 w.heap.size (.slice (some ⟨w3.heap.size,0,none⟩) 0 0) []:=by
  rw[hw4];exact World.ownsRow_made w3 #[] 0 hB3.size (Nat.zero_le _) rfl
 have hz4:w4.heap.size=w3.heap.size+1:=by rw[hw4];simp
 have hB4:=aw hB3 hb4;go_wp2_with fail;rw[←hw4];refine(HKD.out _ hB4).mono ?_;rintro e w5 ⟨av,cv,rfl,hA5,hlo,hb5⟩;have hM:jd w a1 av L (dy L) (eQ L) [] v2 (.slice (some ⟨w3.heap.size,0,none⟩) 0 0) 0 w5:=by
  have l1:=World.ownsRow.lt hO1;have l2:=World.ownsRow.lt hO2;have z2:=hb2.size;have z3:=hb3.size;have z5:=hb5.size;exact { bel:=aw hB4 hb5,lp:=((hA1.call hb3).call hb4).call hb5,sp:=hA5,fs:=bO (bO (dW hO2 (Nat.le_succ_of_le z2)) hb4) hb5,xs:=bO hX4 hb5,n1:=fun p e=>by { have k1:=l1 p.block (by rw[e];simp[Value.ownBlock]);exact⟨by omega,fun e2=>by { have k2:=l2 _ e2;omega },fun e2=>by { simp[Value.ownBlock]at e2;omega }⟩ },n2:=fun p e=>by { have k0:=hlo p e;exact⟨k0.2,fun e2=>by { have k2:=l2 _ e2;omega },fun e2=>by { simp[Value.ownBlock]at e2;omega }⟩ },fl:=by omega,xl:=Nat.le_refl _,xx:=rfl }
 clear hO1 hO2 hA1 hA5 hX4 hb2 hb3 hb4 hb5 hB3 hB4 hw4 hz4 hlo HLO HSP HKD;have HIL:Hid (∀(F:List (Int × Int)) (a2:Option Addr) (c2:Nat) (u v:Int) (W:World),dr W a1 (fi L)→dr W a2 F→F.length≤5000→ah 38 #[.agg #[.int .i64 u,.int .i64 v],.slice a1 (fi L).length c1,.slice a2 F.length c2] W (aA (.bool (decide (bM u F (-1)<bM u (fi L) (-1)))) W)):=fun F a2 c2 u v W h1 h2 h3=>Gz a1 a2 c1 c2 (fi L) F u v W h1 h2 (by omega) h3
 go_wp2;go_loopw [4,5,7,17] (fun v4 v5 _ v17 wr=>∃(k:Nat) (F:List (Int × Int)) (X:List Int),v17=.int .i64 (k:Int)∧k≤(dy L).length∧jd w a1 av L (dy L) F X v4 v5 k wr) (fun _ _ _ v17 _=>(dy L).length-(intOf v17).toNat)
 case atStart=>exact⟨0,eQ L,[],rfl,Nat.zero_le _,hM⟩
 case round =>
  clear hM;obtain⟨k,F,X,rfl,hk,hM⟩:=hrel;obtain⟨a2,c2,rfl,hA2⟩:=hM.fs.arg;obtain⟨ax,cx,rfl,hxx⟩:=pE hM.xs;clear hxx;by_cases hlt:k<(dy L).length
  ·obtain⟨g,hav,hg,d1,d2⟩:=hM.sp k hlt;obtain⟨u,v,huv⟩:∃u v,(dy L)[k]=(u,v):=⟨_,_,rfl⟩;have hmem:(u,v)∈dy L:=huv▸List.getElem_mem hlt;have hnx:=fun hh=>hM.next hlt hh
   have hyx:=fun hh=>hM.yes hlt hh
   rw[huv]at d1 d2 hnx hyx;simp only at d1 d2 hnx hyx;have hfl2:=hM.fl;have hxl2:=hM.xl;have hb0:ai wr (wr.alloc (.cells #[.int .i64 u,.int .i64 v] 64)):=ay (Below.refl _ _) _;have hM1:=hM.grow hb0;have HI:Hid (ah 38 #[.agg #[.int .i64 u,.int .i64 v],.slice a1 (fi L).length c1,.slice a2 F.length c2] (wr.alloc (.cells #[.int .i64 u,.int .i64 v] 64)) fun e w'=>e=.returned (.bool (decide (bM u F (-1)<bM u (fi L) (-1))))∧Below (wr.alloc (.cells #[.int .i64 u,.int .i64 v] 64)).heap.size (wr.alloc (.cells #[.int .i64 u,.int .i64 v] 64)) w'):=HIL.out F a2 c2 u v _ hM1.lp (hA2.call hb0) (by omega);have HNX:Hid (∀{W:World},ai wr W→decide (bM u F (-1)<bM u (fi L) (-1))=false→jd w a1 av L (dy L) F X (.slice a2 F.length c2) (.slice ax X.length cx) (k+1) W):=fun {W} hb hh=>(hnx (of_decide_eq_false hh)).grow hb
   have HYX:Hid (decide (bM u F (-1)<bM u (fi L) (-1))=true→(X++[u])++(gl L ((dy L).drop (k+1)) (F++[(u,v)])).map Prod.fst=aL L):=fun hh=>hyx (of_decide_eq_true hh)
   have cb0:(wr.alloc (.cells #[.int .i64 u,.int .i64 v] 64)).cell? ⟨wr.heap.size,0,none⟩=some (.int .i64 u):=by simp[go_sem]
   have cb1:(wr.alloc (.cells #[.int .i64 u,.int .i64 v] 64)).cell? ⟨wr.heap.size,1,none⟩=some (.int .i64 v):=by simp[go_sem]
   have hbq:wr.heap.size<(wr.alloc (.cells #[.int .i64 u,.int .i64 v] 64)).heap.size:=by simp
   generalize decide (bM u F (-1)<bM u (fi L) (-1))=o at HI HNX HYX;subst hav;clear huv hnx hyx;go_wp2_with fail;refine HI.out.mono ?_;rintro r W2 ⟨rfl,hb2⟩;have hM2:=hM1.grow hb2;have hq0:=(hb2.cell (p:=⟨wr.heap.size,0,none⟩) hbq).trans cb0;have hq1:=(hb2.cell (p:=⟨wr.heap.size,1,none⟩) hbq).trans cb1;have hqz:wr.heap.size<W2.heap.size:=Nat.lt_of_lt_of_le hbq hb2.size;have hqf:(Value.slice a2 F.length c2).ownBlock≠some wr.heap.size:=fun e=>absurd (World.ownsRow.lt hM.fs _ e).2 (Nat.lt_irrefl _)
   have hM3:o=false→jd w a1 (some ⟨g,0,none⟩) L (dy L) F X (.slice a2 F.length c2) (.slice ax X.length cx) (k+1) W2:=fun e=>HNX.out (aw hb0 hb2) e
   clear HI HNX d1 d2 cb0 cb1 hM hM1 hb0 hA2 hb2;cases o
   ·have hM4:=hM3 rfl;clear hM3 hM2;go_wp2;go_roundw
    case rel=>exact⟨k+1,F,X,by go_num,by omega,hM4⟩
    case measure=>simp[intOf];omega
   ·have HX1:Hid ((X++[u])++(gl L ((dy L).drop (k+1)) (F++[(u,v)])).map Prod.fst=aL L):=HYX.out rfl;clear hM3 HYX;have hcc2:∀y∈[Value.int .i64 u,Value.int .i64 v],y.oneCell'=true:=fun y hy=>by
     simp at hy;rcases hy with rfl|rfl<;>rfl
    have hcu:∀y∈[Value.int .i64 u],y.oneCell'=true:=fun y hy=>by
     simp at hy;subst hy;rfl
    have hbA:ai W2 (W2.alloc (.cells #[.int .i64 u,.int .i64 v] 64)):=ay (Below.refl _ _) _;have hMA:=hM2.grow hbA;have hqa:(W2.alloc (.cells #[.int .i64 u,.int .i64 v] 64)).cell? ⟨wr.heap.size,0,none⟩=some (.int .i64 u):=(hbA.cell (p:=⟨wr.heap.size,0,none⟩) hqz).trans hq0;have hza:wr.heap.size<(W2.alloc (.cells #[.int .i64 u,.int .i64 v] 64)).heap.size:=Nat.lt_of_lt_of_le hqz hbA.size;have hk1:F.length+1≤maxLen:=by unfold maxLen;omega
    have hk2:(F.length+1)*16≤140737488355328:=by omega
    have hk3:X.length+1≤maxLen:=by unfold maxLen;omega
    have hk4:(X.length+1)*8≤140737488355328:=by omega
    go_wp2_with (at_builtin;refine j7 _ rfl _ _ 60 rfl w.heap.size 64 i0 (.agg #[.int .i64 0,.int .i64 0]) 2 16 Tryz.underlying60 hi hz0 hz1 hz2 rfl (by decide) _ F.length _ rfl hMA.fs ⟨W2.heap.size,0,none⟩ 1 1 [.int .i64 u,.int .i64 v] rfl rfl (tQ W2 _ _ _) hcc2 hk1 hk2 hMA.bel.size ?_)
    intro v' W3 hown hgrow hloc;obtain⟨g',cap',rfl⟩:=ownsRow_succ hown;obtain⟨mf,mx,ml,ms,mb,m1,m2⟩:=hMA.O5 (s:=(u,v)) hown hgrow (by rw[World.size_alloc];exact hloc);have hqb:W3.cell? ⟨wr.heap.size,0,none⟩=some (.int .i64 u):=(World.cell?_of_block (w:=W2.alloc (.cells #[.int .i64 u,.int .i64 v] 64)) (a:=⟨wr.heap.size,0,none⟩) (hgrow.block _ hza (fun e=>hqf e.symm))).trans hqa;have n1:=hMA.n1;have n2:=hMA.n2;have hgz:=hgrow.size;have hbB:ai W3 (W3.alloc (.cells #[.int .i64 u] 2)):=ay (Below.refl _ _) _;have hmb2:=aw mb hbB;clear hown hgrow hloc hMA hM2 hq0 hq1 hqa hbA;go_wp2_with (at_builtin;refine j7 _ rfl _ _ 38 rfl w.heap.size 2 j0 (.int .i64 0) 1 8 Tryz.underlying38 gi gz0 gz1 gz2 rfl (by decide) _ X.length _ rfl (bO mx hbB) ⟨W3.heap.size,0,none⟩ 1 1 [.int .i64 u] rfl rfl (cell_one_new _ _ _) hcu hk3 hk4 hmb2.size ?_)
    intro v'' W4 hown4 hgrow4 hloc4;obtain⟨g'',cap'',rfl⟩:=ownsRow_succ hown4;have hM4:jd w a1 (some ⟨g,0,none⟩) L (dy L) (F++[(u,v)]) (X++[u]) (.slice (some ⟨g',0,none⟩) (F.length+1) cap') (.slice (some ⟨g'',0,none⟩) (X.length+1) cap'') (k+1) W4:=by
     have hz4:=hgrow4.size;have hzB:=hbB.size;exact { bel:=hmb2.grown hgrow4 hmb2.size (fun g hg=>(World.ownsRow.lt mx g hg).1),lp:=pN (ml.call hbB) hgrow4 (fun p e=>(n1 p e).2.2),sp:=pN (ms.call hbB) hgrow4 (fun p e=>(n2 p e).2.2),fs:=cR (bO mf hbB) (fun g hg=>hgrow4.block g (Nat.lt_of_lt_of_le (World.ownsRow.lt mf g hg).2 hzB) (fun e=>rA mf mx (by decide) hg e.symm)),xs:=by { unfold bY;rw[List.length_append,List.map_append];exact hown4 },n1:=fun p e=>⟨by { have:=(n1 p e).1;omega },m1 p e,fun e2=>by { rcases hloc4 _ e2 with e3|e3;exact(n1 p e).2.2 e3;have:=(n1 p e).1;omega }⟩,n2:=fun p e=>⟨by { have:=(n2 p e).1;omega },m2 p e,fun e2=>by { rcases hloc4 _ e2 with e3|e3;exact(n2 p e).2.2 e3;have:=(n2 p e).1;omega }⟩,fl:=by { rw[List.length_append,List.length_singleton];omega },xl:=by { rw[List.length_append,List.length_singleton];omega },xx:=HX1.out }
    clear hown4 hgrow4 hloc4 mf mx ml ms mb m1 m2 n1 n2 hqb;go_wp2;go_roundw
    case rel=>exact⟨k+1,F++[(u,v)],X++[u],by go_num,by omega,hM4⟩
    case measure=>simp[intOf];omega
  ·have HE:Hid (bY wr w.heap.size (.slice ax X.length cx) (aL L)):=by
    have:=hM.xx;rw[List.drop_eq_nil_of_le (by omega)]at this;have e2:X=aL L:=by
     rw[←this];show X=X++[];rw[List.append_nil]
    show bY wr w.heap.size (.slice ax X.length cx) (aL L);rw[←e2];exact hM.xs
   have hbel:=hM.bel
   clear hM hA2
   go_wp2
   go_ret
   exact⟨_,rfl,HE.out,hbel⟩
section
variable {P:Program}
theorem LM(w:World)(t ti ty e:TypeId)(i:TypeInfo)(z:Value)(ht:P.underlying t=some (.slice e))(hti:P.underlying ti=some (.int .i64))(hi:P.info? e=some i)(hz:i.zero=some z)
  (n:Nat) (h0:0<n) (hn:n≤1000000) (hs:i.size=1) (hb:i.bytes=16) :
  (Builtin.append_ #[t,ti] ty #[.slice none 0 0,.int .i64 n]).run P w =
   .ok (.slice (some ⟨w.heap.size,0,none⟩) n (grownCap w n 0 e)) (w.drew.alloc (.cells (Builtin.zeroCells z.cells n++Builtin.zeroCells z.cells (grownCap w n 0 e-n)) e)):=by
 have h1:IntKind.i64.wrap (n:Int)=n:=by rw[IntKind.wrap_i64];omega
 have h48':¬(281474976710656<Builtin.nextslicecap n 0*16):=by rw[nextslicecap_zero h0];omega
 have hne:n≠0:=by omega
 have h2:¬((281474976710656:Int)<(n:Int)*16):=by omega
 have h3:¬((n:Int)<0):=by omega
 have h4:¬((9223372036854775807:Int)<(n:Int)):=by omega
 simp[Builtin.append_,run_underlying ht,run_underlying hti,sizeOf,typeInfo,zeroValue,hi,hz,hs,hb,asInt,asIntOf,h1,h2,h3,h4,hne,h48',Question.forced,run_firstCells_none,newRow,grownCap]
theorem Oi(w:World){ops:Array Oper}{rest:List Oper}{o:Oper}{a:Act}{Q:Exit→Act→World→Prop}(hgd:o.guard=none)(s x:Operand)(t ti:TypeId)
  (ho:o.op=.call { callee:=.builtin .append,args:=#[s,x],argTypes:=#[t,ti] })
  (e:TypeId) (i:TypeInfo) (z:Value) (ht:P.underlying t=some (.slice e)) (hti:P.underlying ti=some (.int .i64)) (hi:P.info? e=some i) (hz:i.zero=some z) (hs1:i.size=1) (hby:i.bytes=16) (hzs:z.cells.size=1)
  (n:Nat) (h0:0<n) (hn:n≤1000000) (hs:a.eval s=.slice none 0 0) (hx:a.eval x=.int .i64 n)
  (h:∀g cp w',n≤cp→w'.ownsRow w.heap.size e 1 (.slice (some ⟨g,0,none⟩) 0 cp) 0 []→ai w w'→wpList P ops Q rest (a.put o.dst (.slice (some ⟨g,0,none⟩) n cp)) w'):wpList P ops Q (o::rest) a w:=by
 refine wpList_plain hgd fun K' hK'=>?_
 have hr:=LM (P:=P) w t ti o.type e i z ht hti hi hz n h0 hn hs1 hby
 unfold Oper.wp execOp;simp only[ho,resolve,invoke,builtin,Sem.run_bind,Sem.run_pure,Result.andThen_ok,List.map_toArray,List.map_cons,List.map_nil,hs,hx,hr];have hge:=grownCap_ge w n 0 e;refine hK' _ _ (h _ _ _ hge ⟨rfl,.inr ⟨w.heap.size,_,_,rfl,Nat.le_refl _,heap_alloc_new w.drew _,Nat.zero_le _,grownCap_le_maxLen w n 0 e (by unfold maxLen;omega),?_,?_⟩⟩ ((Below.refl _ _).drew.alloc (Nat.le_refl _) _))
 ·simp only[Array.size_append,size_zeroCells,hzs];omega
 ·simp
end
theorem Tryz.PD:Tryz.prog.underlying 3=some (.int .i64):=Tryz.underlying3
theorem FX(n:Nat)(w:World)(h0:0<n)(hn:n≤1000000) :
  ah 137 #[.slice none 0 0,.int .i64 n] w fun e w'=>∃g cp,e=.returned (.slice (some ⟨g,0,none⟩) 0 cp)∧aG w' w.heap.size g 0 cp []∧ai w w':=by
 obtain⟨i0,hi,hz0,hz1,hz2⟩:=info_parts Tryz.OJ;have h1:¬(n:Int)<0:=by omega
 have h2:(0:Int)<(n:Int):=by omega
 go_enter func137,ntmps137;go_wp2_with (at_builtin;refine Oi _ rfl _ _ 22 3 rfl 9 i0 (.string ⟨#[]⟩) Tryz.underlying22 Tryz.PD hi hz0 hz1 hz2 rfl n h0 hn rfl rfl ?_)
 intro g cp w1 hcp hO hB;go_wp2;go_ret;exact⟨g,cp,rfl,hO,hB⟩
def Sl(w:World)(v:Value)(X:af):Prop:=∃g o c,v=.slice (some ⟨g,o,none⟩) X.length c∧g<w.heap.size∧X.length≤c∧∀i (h:i<X.length),w.cell? ⟨g,o+i,none⟩=some (.string X[i])
theorem Sl.call{w w':World}{v:Value}{X:af}(h:Sl w v X)(hb:ai w w'):Sl w' v X:=by
 obtain⟨g,o,c,e,hg,hc,hx⟩:=h;exact⟨g,o,c,e,Nat.lt_of_lt_of_le hg hb.size,hc,fun i hi=>(hb.cell (p:=⟨g,o+i,none⟩) hg).trans (hx i hi)⟩
theorem aG.sl{w:World}{B g n cp:Nat}{X:af}(h:aG w B g n cp X):Sl w (.slice (some ⟨g,0,none⟩) n cp) X:=by
 have hn:n=X.length:=by have:=h.1;simpa using this.symm
 subst hn;have hr:=h.row.1;have hc:X.length≤cp:=by
  rcases h.2 with⟨hv,_⟩|⟨g',cap',cur,hv,_,_,hcap,_⟩
  ·cases hv
  ·cases hv;exact hcap
 exact⟨g,0,cp,rfl,hr.1,hc,fun i hi=>by rw[Nat.zero_add];exact(hr.2 i hi).1⟩
theorem Sl.arg{w:World}{v:Value}{X:af}(h:Sl w v X)(hm:∀s∈X,s.size≤maxLen):∃a c,v=.slice a X.length c∧X.length≤c∧aD w a X:=by
 obtain⟨g,o,c,e,hg,hc,hx⟩:=h;exact⟨_,c,e,hc,fun i hi=>⟨g,o,rfl,hg,hx i hi,hm _ (List.getElem_mem hi)⟩⟩
def pY(w:World)(g:Nat)(V:List Value)(XS:List af):Prop:=V.length=XS.length∧g<w.heap.size∧∀i (h:i<XS.length) (h':i<V.length),w.cell? ⟨g,i,none⟩=some V[i]∧Sl w V[i] XS[i]
theorem pY.call{w w':World}{g:Nat}{V:List Value}{XS:List af}(h:pY w g V XS)(hb:ai w w'):pY w' g V XS :=
 ⟨h.1,Nat.lt_of_lt_of_le h.2.1 hb.size,fun i hi hi'=>⟨(hb.cell (p:=⟨g,i,none⟩) h.2.1).trans (h.2.2 i hi hi').1,(h.2.2 i hi hi').2.call hb⟩⟩
def eB(XS:List af):Nat:=XS.flatten.length
theorem vR(XS:List af)(k:Nat)(h:k<XS.length):eB (XS.take (k+1))=eB (XS.take k)+XS[k].length∧(XS.take (k+1)).flatten=(XS.take k).flatten++XS[k]:=by
 have e:(XS.take (k+1)).flatten=(XS.take k).flatten++XS[k]:=by rw[List.take_succ_eq_append_getElem h,List.flatten_append];simp
 unfold eB;rw[e,List.length_append];exact⟨rfl,rfl⟩
theorem vQ(XS:List af)(k:Nat):eB (XS.take k)≤eB XS:=by
 unfold eB;have:XS.flatten=(XS.take k).flatten++(XS.drop k).flatten:=by rw[←List.flatten_append,List.take_append_drop]
 rw[this,List.length_append];omega
set_option maxRecDepth 100000 in
theorem Ex(g k c:Nat)(V:List Value)(XS:List af)(w:World)(h:pY w g V XS)(hk:XS.length=k)(hkb:k≤1000)(hf:∀h:0<XS.length,0<XS[0].length)(h0:0<XS.length)(hn:eB XS≤1000000) :
  ah 77 #[.slice (some ⟨g,0,none⟩) k c] w fun e w'=>∃g' n' cp,e=.returned (.slice (some ⟨g',0,none⟩) n' cp)∧aG w' w.heap.size g' n' cp XS.flatten∧ai w w':=by
 obtain⟨i0,hi,hz0,hz1,hz2⟩:=info_parts Tryz.OJ;have HV:Hid (V.length=k):=h.1.trans hk;have HX:=aj hk;clear hk;go_enter func77,ntmps77;go_wp2;go_loopw [3,5,11] (fun v3 _ v11 wr=>∃(j m:Nat),v3=.int .i64 (m:Int)∧v11=.int .i64 (j:Int)∧j≤k∧Hid (m=eB (XS.take j))∧m≤1000000∧ai w wr) (fun _ _ v11 _=>k-(intOf v11).toNat)
 case atStart=>exact⟨0,0,rfl,rfl,Nat.zero_le _,rfl,Nat.zero_le _,Below.refl _ _⟩
 case round =>
  obtain⟨j,m,rfl,rfl,hj,HM,hm,hB⟩:=hrel;by_cases hlt:j<k
  ·have hjx:j<XS.length:=by rw[HX.out];exact hlt
   have hjv:j<V.length:=by rw[HV.out];exact hlt
   obtain⟨hc,g1,o1,c1,hv,hg1,hcc,_⟩:=(h.call hB).2.2 j hjx hjv;have HM2:Hid (m+XS[j].length=eB (XS.take (j+1))):=by
    show m+XS[j].length=eB (XS.take (j+1));rw[(vR XS j hjx).1,←HM.out]
   have hm2:m+XS[j].length≤1000000:=by
    have:=vQ XS (j+1);rw[←HM2.out]at this;omega
   rw[hv]at hc;clear hv hcc;generalize XS[j].length=q at hc HM2 hm2;go_wp2;go_roundw
   case rel=>exact⟨j+1,m+q,by go_num,by go_num,by omega,HM2.out,hm2,hB⟩
   case measure=>simp[intOf];omega
  ·have hje:j=k:=by omega
   have HT:Hid (m=eB XS):=by
    show m=eB XS;rw[HM.out,List.take_of_length_le (by rw[HX.out];omega)]
   have hm0:0<m:=by
    have h1:=vQ XS (0+1);rw[(vR XS 0 h0).1]at h1;have h2:=hf h0;rw[HT.out];omega
   clear hje;go_wp2_with fail;refine(FX m _ hm0 hm).mono ?_;rintro e w1 ⟨g6,c6,rfl,hO6,hb1⟩;have hB1:=aw hB hb1;have hO:Hid (aG w1 w.heap.size g6 0 c6 []):=dW hO6 hB.size;clear hO6 hb1 HM HT;go_wp2;go_loopw [6,8,27] (fun v6 _ v27 wr=>∃(i g6 n6 c6:Nat) (Y:af),v27=.int .i64 (i:Int)∧i≤k∧v6=.slice (some ⟨g6,0,none⟩) n6 c6∧Hid (n6=eB (XS.take i))∧(0<i→0<n6)∧n6≤1000000∧Hid (aG wr w.heap.size g6 n6 c6 Y)∧Hid (Y=(XS.take i).flatten)∧ai w wr) (fun _ _ v27 _=>k-(intOf v27).toNat)
   case atStart=>exact⟨0,g6,0,c6,[],rfl,Nat.zero_le _,rfl,rfl,fun h=>absurd h (Nat.lt_irrefl _),Nat.zero_le _,hO.out,rfl,hB1⟩
   case round =>
    clear hO hB1;obtain⟨i,g6,n6,c6,Y,rfl,hi6,rfl,HN,hpos,hn6,HO,HY,hB2⟩:=hrel;by_cases hli:i<k
    ·have hjx:i<XS.length:=by rw[HX.out];exact hli
     have hjv:i<V.length:=by rw[HV.out];exact hli
     obtain⟨hc,g1,o1,c1,hv,hg1,hcc,hcl⟩:=(h.call hB2).2.2 i hjx hjv;obtain⟨_,g1',o1',c1',hv',hg1',_,_⟩:=h.2.2 i hjx hjv;have hgw:g1<w.heap.size:=by
      rw[hv]at hv';cases hv';exact hg1'
     obtain⟨e1,e2⟩:=vR XS i hjx;have HN2:Hid (n6+XS[i].length=eB (XS.take (i+1))):=by
      show n6+XS[i].length=eB (XS.take (i+1));rw[e1,←HN.out]
     have hm2:n6+XS[i].length≤1000000:=by
      have:=vQ XS (i+1);rw[←HN2.out]at this;omega
     have HY2:Hid (Y++XS[i]=(XS.take (i+1)).flatten):=by
      show Y++XS[i]=(XS.take (i+1)).flatten;rw[e2,←HY.out]
     rw[hv]at hc;clear hv hv' hg1' e1 e2 HN HY hcc;obtain⟨Z,hZ⟩:∃Z,Z=XS[i]:=⟨_,rfl⟩;obtain⟨q,hq⟩:∃q,q=Z.length:=⟨_,rfl⟩;have hadd:∀j,(⟨g1,o1,none⟩:Addr).add j=⟨g1,o1+j,none⟩:=fun j=>by unfold Addr.add;split<;>simp_all
     have hnews:∀j u,(Z.map Value.string)[j]?=some u→wr.cell? ((⟨g1,o1,none⟩:Addr).add j)=some u:=fun j u hu=>by
      rw[hadd];rw[List.getElem?_map]at hu;cases hzj:Z[j]? with
      |none=>rw[hzj]at hu;cases hu
      |some s =>
       rw[hzj]at hu;simp at hu;subst hu;obtain⟨hl,hs⟩:=List.getElem?_eq_some_iff.1 hzj;subst hZ;rw[←hs];exact hcl j hl
     rw[←hZ,←hq]at hc HN2 hm2;rw[←hZ]at HY2;have hln:(Z.map Value.string).length=q*1:=by rw[List.length_map,hq];omega
     have hpq:0<n6+q:=by
      by_cases hi0:i=0
      ·subst hi0;have:=hf hjx;rw[hq,hZ];omega
      ·have:=hpos (by omega);omega
     have hone:∀u∈Z.map Value.string,u.oneCell'=true:=fun u hu=>by
      obtain⟨s,_,rfl⟩:=List.mem_map.mp hu;rfl
     have hb1:n6+q≤maxLen:=by unfold maxLen;omega
     have hb2:(n6+q)*16≤140737488355328:=by omega
     have hbz:=hB2.size;clear hZ hq hcl;go_wp2_with (at_builtin;refine j7 _ rfl _ _ 22 rfl w.heap.size 9 i0 (.string ⟨#[]⟩) 1 16 Tryz.underlying22 hi hz0 hz1 hz2 rfl (by decide) _ _ _ rfl HO.out ⟨g1,o1,none⟩ q c1 (Z.map Value.string) rfl hln hnews hone hb1 hb2 hbz ?_)
     intro v' w5 hown' hgrow hwh;have hB5:ai w w5:=hB2.grown hgrow hB2.size (fun k hk=>(World.ownsRow.lt HO.out k hk).1);obtain⟨r,hr⟩:∃r,n6+q=r+1:=⟨n6+q-1,by omega⟩;have hsh:∃g5 c5,v'=.slice (some ⟨g5,0,none⟩) (n6+q) c5:=by
      rw[hr]at hown' ⊢;exact ownsRow_succ hown'
     clear hr;obtain⟨g5,c5,rfl⟩:=hsh;have HO5:Hid (aG w5 w.heap.size g5 (n6+q) c5 (Y++Z)):=by
      show w5.ownsRow w.heap.size 9 1 (.slice (some ⟨g5,0,none⟩) (n6+q) c5) (n6+q) ((Y++Z).map Value.string);rw[List.map_append];exact hown'
     clear hown' hgrow hwh hone hln hnews hc HO;go_wp2;go_roundw
     case rel=>exact⟨i+1,g5,n6+q,c5,Y++Z,by go_num,by omega,rfl,HN2.out,fun _=>hpq,hm2,HO5.out,HY2.out,hB5⟩
     case measure=>simp[intOf];omega
    ·have HE:Hid (aG wr w.heap.size g6 n6 c6 XS.flatten):=by
      show aG wr w.heap.size g6 n6 c6 XS.flatten;have e:XS.flatten=Y:=by rw[HY.out,List.take_of_length_le (by rw[HX.out];omega)]
      rw[e];exact HO.out
     clear HO HY HN
     go_wp2
     go_ret
     exact⟨g6,n6,c6,rfl,HE.out,hB2⟩
end Go.Proofs.YtdojfommmpnbgaaGreatDoor
