import Derived.Test.YtdojfommmpnbgaaGreatDoorKBM
import Derived.Test.YtdojfommmpnbgaaGreatDoorKBJ
import Derived.RangeFuncNested
namespace Go.Proofs.YtdojfommmpnbgaaGreatDoor
open Go.RowKit Go.Shelf Go.Proofs.Tryz
attribute [local go_sem] Oper.semAt_some
theorem kj{w w':World}{g:Nat}{t:TypeId}{v:Value}(h:Boxed w g t v)(hb:ai w w'):Boxed w' g t v:=(hb.block g h.lt).trans h
theorem ky{w:World}{B:Nat}{e t:TypeId}{sz n g:Nat}{v u x:Value}{xs:List Value}(h:w.ownsRow B e sz v n xs)(hb:Boxed w g t u)(hne:t≠e):(w.setCell ⟨g,0,none⟩ x).ownsRow B e sz v n xs:=World.ownsRow.kept h (grownBy_setCell' w g x) (.inr (hb.not_row hne h).symm)
theorem kG{w:World}{g g':Nat}{t t':TypeId}{v v':Value}(h:Boxed w g t v)(h':Boxed w g' t' v')(hne:t≠t'):g≠g':=fun e=>by
 subst e;have:=Option.some.inj (h.symm.trans h');injection this with _ e2;exact hne e2
def rV(w:World)(B:Nat)(v:Value)(U:List (Int × Int × Bool)):Prop:=w.ownsRow B 142 3 v U.length (gW U)
theorem DI{F:Fence}{n:Nat}{P:Program}(w:World){ops:Array Oper}{rest:List Oper}{o:Oper}{a:Act}{Q:Exit→Act→World→Prop}
  (hg:o.guard=none) (s x:Operand) (t:TypeId) (hop:o.op=Op.call { callee:=Callee.builtin Builtin.append,args:=#[s,x],argTypes:=#[t,t] })
  (base:Nat) (e:TypeId) (i:TypeInfo) (z:Value) (size bytes:Nat) (h1:P.underlying t=some (.slice e)) (h2:P.info? e=some i) (h3:i.zero=some z) (h4:i.size=size) (h5:i.bytes=bytes) (h6:z.cells.size=size) (h7:0<size)
  (v:Value) (k:Nat) (xs:List Value) (hs:a.eval s=v) (hown:w.ownsRow base e size v k xs) (ad:Addr) (m c:Nat) (news:List Value) (hx:a.eval x=.slice (some ad) m c) (hn:news.length=m*size)
  (hc:∀j u,news[j]?=some u→w.cell? (ad.add j)=some u) (h1c:∀u∈news,u.oneCell'=true) (b1:k+m≤maxLen) (b2:(k+m)*bytes≤140737488355328) (b3:base≤w.heap.size)
  (hK:∀v' w',w'.ownsRow base e size v' (k+m) (xs++news)→w.grownBy w' v.ownBlock→(∀g,v'.ownBlock=some g→v.ownBlock=some g∨g=w.heap.size)→wpListIn F n P ops Q rest (a.put o.dst v') w') :
  wpListIn F n P ops Q (o::rest) a w:=by
 refine wpListIn_plain hg fun K hK'=>?_
 obtain⟨v',w',hrun,r1,r2,r3⟩:=CU (P:=P) w base t o.type e i z size bytes h1 h2 h3 h4 h5 h6 h7 v k xs hown ad m c news hn hc h1c b1 b2 b3;unfold Oper.wpIn;refine⟨?_,?_⟩
 ·simp[Oper.about,hop,resolve,Target.leads,Sem.run_pure]
 ·rw[Oper.semAt_plain F _ _ (by rw[hop];intro c hc';cases hc')];simp[execOp,hop,resolve,invoke,builtin,hs,hx,hrun,Result.andThen];exact hK' _ _ (hK v' w' r1 r2 r3)
def ub(B:Nat)(W:World)(row:Option Nat):Prop:=∀r,row=some r→B≤r∧∃o:Obj,W.heap[r]?=some o∧o.isCells=false
theorem nz{W W':World}{B0 B:Nat}{t:TypeId}{v:Value}{row:Option Nat}(h:Boxed W B t v)(hg:W.grownBy W' row)(hr:ub B0 W row):Boxed W' B t v :=
 h.kept hg (fun e'=>by obtain⟨_,o,ho,hc⟩:=hr B e'.symm;rw[show W.heap[B]?=_ from h]at ho;cases ho;cases hc)
theorem th{W W':World}{B0 B n sz:Nat}{e:TypeId}{v:Value}{xs:List Value}{row:Option Nat}(h:W.ownsRow B e sz v n xs)(hg:W.grownBy W' row)(hr:ub B0 W row):W'.ownsRow B e sz v n xs:=by
 refine cR h (fun g hv=>hg.block g (World.ownsRow.lt h g hv).2 (fun e'=>?_));rcases h.2 with⟨rfl,_⟩|⟨g',cap,cur,rfl,_,hgb,_⟩
 ·simp[Value.ownBlock]at hv
 ·simp[Value.ownBlock]at hv;subst hv;obtain⟨_,o,ho,hc⟩:=hr g' e'.symm;rw[hgb]at ho;cases ho;cases hc
structure jv (w:World) (SL:Value) (g3 g4 g5 bl:Nat) (vu va:Value) (U:List (Int × Int × Bool)) (D K R:List (Int × Int)) (vk vo:Value) (W:World):Prop where
 bel:ai w W
 b1:Boxed W w.heap.size 22 SL
 b3:Boxed W g3 54 vu
 bb:Boxed W bl 60 va
 b4:Boxed W g4 60 vk
 b5:Boxed W g5 60 vo
 us:rV W w.heap.size vu U
 ds:dP W w.heap.size va D
 ks:dP W w.heap.size vk K
 rs:dP W w.heap.size vo R
 d1:∀g,vk.ownBlock=some g→vo.ownBlock=some g→False
 d2:∀g,va.ownBlock=some g→vk.ownBlock=some g→False
 d3:∀g,va.ownBlock=some g→vo.ownBlock=some g→False
section
variable {w:World} {SL:Value} {g3 g4 g5 bl:Nat} {vu va vk vo:Value} {U:List (Int × Int × Bool)} {D K Rr:List (Int × Int)} {W W':World}
theorem jv.R(h:jv w SL g3 g4 g5 bl vu va U D K Rr vk vo W){row:Option Nat}(hg:W.grownBy W' row)(hr:ub w.heap.size W row):jv w SL g3 g4 g5 bl vu va U D K Rr vk vo W' where
 bel:=ownFrom_below (β:=Unit) (B:=w.heap.size) (Nat.le_refl w.heap.size) (Nat.le_refl _) () W W' row h.bel hg hr
 b1:=nz h.b1 hg hr
 b3:=nz h.b3 hg hr
 bb:=nz h.bb hg hr
 b4:=nz h.b4 hg hr
 b5:=nz h.b5 hg hr
 us:=th h.us hg hr
 ds:=th h.ds hg hr
 ks:=th h.ks hg hr
 rs:=th h.rs hg hr
 d1:=h.d1
 d2:=h.d2
 d3:=h.d3
theorem yh{W W':World}(hb:ai W W'):W.grownBy W' none:=⟨hb.os,hb.tape,hb.output,hb.size,fun k hk _=>hb.block k hk⟩
theorem jv.grow(h:jv w SL g3 g4 g5 bl vu va U D K Rr vk vo W)(hb:ai W W'):jv w SL g3 g4 g5 bl vu va U D K Rr vk vo W':=h.R (yh hb) (fun _ e=>by cases e)
theorem lN{W w1:World}{tmp:Obj}{g:Nat}{v v':Value}(hgrow:(W.alloc tmp).grownBy w1 v.ownBlock){k:Nat}(hk:k<W.heap.size)(h1:v.ownBlock≠some k)(h2:k≠g):(w1.setCell ⟨g,0,none⟩ v').heap[k]?=W.heap[k]? :=
 (Below.heap_setCell w1 ⟨g,0,none⟩ v' k h2).trans ((hgrow.block k (by simp;omega) (fun e=>h1 e.symm)).trans (Below.heap_alloc _ _ _ hk))
theorem jv.Pe(h:jv w SL g3 g4 g5 bl vu va U D K Rr vk vo W){tmp:Obj}{w1:World}{v':Value}{s:Int × Int}(hown:w1.ownsRow w.heap.size 64 2 v' (K.length+1) (jk K++[.int .i64 s.1,.int .i64 s.2]))(hgrow:(W.alloc tmp).grownBy w1 vk.ownBlock)(hloc:∀g,v'.ownBlock=some g→vk.ownBlock=some g∨g=(W.alloc tmp).heap.size)(hw4:w.heap.size≤g4)(n45:g4≠g5)(n4b:g4≠bl) :
  Boxed w1 g4 60 vk∧KeepsOthers W (w1.setCell ⟨g4,0,none⟩ v')∧(∀g,va.ownBlock=some g→(w1.setCell ⟨g4,0,none⟩ v').heap[g]?=W.heap[g]?)∧jv w SL g3 g4 g5 bl vu va U D (K++[s]) Rr v' vo (w1.setCell ⟨g4,0,none⟩ v'):=by
 obtain⟨k1,k2,k3,k4,k5⟩:=Boxed.appended h.b4 (by decide) h.ks h.bel.size hw4 hown hgrow;have hz:W.heap.size≤(W.alloc tmp).heap.size:=by simp
 have ro:∀{e:TypeId} {sz n:Nat} {v:Value} {xs:List Value},W.ownsRow w.heap.size e sz v n xs→(60:TypeId)≠e→(∀g,v.ownBlock=some g→vk.ownBlock=some g→False)→(w1.setCell ⟨g4,0,none⟩ v').ownsRow w.heap.size e sz v n xs:=fun hr hne hd =>
  cR hr (fun g hg=>lN hgrow (World.ownsRow.lt hr g hg).2 (fun e=>hd g hg e) (fun e=>by subst e;exact h.b4.not_row hne hr hg.symm))
 have bo:∀{b:Nat} {t:TypeId} {v:Value},Boxed W b t v→t≠64→b≠g4→Boxed (w1.setCell ⟨g4,0,none⟩ v') b t v:=fun hb hne hb4 =>
  (lN hgrow hb.lt (fun e=>hb.not_row hne h.ks e.symm) hb4).trans hb
 have dn:∀{v:Value} {e:TypeId} {sz n:Nat} {xs:List Value},W.ownsRow w.heap.size e sz v n xs→(∀g,v.ownBlock=some g→vk.ownBlock=some g→False)→∀g,v.ownBlock=some g→v'.ownBlock=some g→False:=fun hr hd g e1 e2=>by
  rcases hloc g e2 with e3|e3
  ·exact hd g e1 e3
  ·have:=(World.ownsRow.lt hr g e1).2;omega
 refine⟨k1,k4,fun g hg=>lN hgrow (World.ownsRow.lt h.ds g hg).2 (fun e=>h.d2 g hg e) (fun e=>by subst e;exact h.b4.not_row (by decide) h.ds hg.symm),?_⟩;exact { bel:=h.bel.trans k5,b1:=bo h.b1 (by decide) (kG h.b1 h.b4 (by decide)),b3:=bo h.b3 (by decide) (kG h.b3 h.b4 (by decide)),bb:=bo h.bb (by decide) (Ne.symm n4b),b4:=k2,b5:=bo h.b5 (by decide) (Ne.symm n45),us:=cR h.us (fun g hg=>lN hgrow (World.ownsRow.lt h.us g hg).2 (fun e=>rA h.us h.ks (by decide) hg e) (fun e=>by subst e;exact h.b4.not_row (by decide) h.us hg.symm)),ds:=ro h.ds (by decide) h.d2,ks:=by unfold dP;rw[qy,List.length_append];exact k3,rs:=ro h.rs (by decide) (fun g e1 e2=>h.d1 g e2 e1),d1:=fun g e1 e2=>dn h.rs (fun g e1 e2=>h.d1 g e2 e1) g e2 e1,d2:=fun g e1 e2=>dn h.ds h.d2 g e1 e2,d3:=h.d3 }
theorem jv.Pg(h:jv w SL g3 g4 g5 bl vu va U D K Rr vk vo W){tmp:Obj}{w1:World}{v':Value}{s:Int × Int}(hown:w1.ownsRow w.heap.size 64 2 v' (Rr.length+1) (jk Rr++[.int .i64 s.1,.int .i64 s.2]))(hgrow:(W.alloc tmp).grownBy w1 vo.ownBlock)(hloc:∀g,v'.ownBlock=some g→vo.ownBlock=some g∨g=(W.alloc tmp).heap.size)(hw5:w.heap.size≤g5)(n45:g4≠g5)(n5b:g5≠bl) :
  Boxed w1 g5 60 vo∧KeepsOthers W (w1.setCell ⟨g5,0,none⟩ v')∧(∀g,va.ownBlock=some g→(w1.setCell ⟨g5,0,none⟩ v').heap[g]?=W.heap[g]?)∧jv w SL g3 g4 g5 bl vu va U D K (Rr++[s]) vk v' (w1.setCell ⟨g5,0,none⟩ v'):=by
 obtain⟨k1,k2,k3,k4,k5⟩:=Boxed.appended h.b5 (by decide) h.rs h.bel.size hw5 hown hgrow;have hz:W.heap.size≤(W.alloc tmp).heap.size:=by simp
 have ro:∀{e:TypeId} {sz n:Nat} {v:Value} {xs:List Value},W.ownsRow w.heap.size e sz v n xs→(60:TypeId)≠e→(∀g,v.ownBlock=some g→vo.ownBlock=some g→False)→(w1.setCell ⟨g5,0,none⟩ v').ownsRow w.heap.size e sz v n xs:=fun hr hne hd =>
  cR hr (fun g hg=>lN hgrow (World.ownsRow.lt hr g hg).2 (fun e=>hd g hg e) (fun e=>by subst e;exact h.b5.not_row hne hr hg.symm))
 have bo:∀{b:Nat} {t:TypeId} {v:Value},Boxed W b t v→t≠64→b≠g5→Boxed (w1.setCell ⟨g5,0,none⟩ v') b t v:=fun hb hne hb5 =>
  (lN hgrow hb.lt (fun e=>hb.not_row hne h.rs e.symm) hb5).trans hb
 have dn:∀{v:Value} {e:TypeId} {sz n:Nat} {xs:List Value},W.ownsRow w.heap.size e sz v n xs→(∀g,v.ownBlock=some g→vo.ownBlock=some g→False)→∀g,v.ownBlock=some g→v'.ownBlock=some g→False:=fun hr hd g e1 e2=>by
  rcases hloc g e2 with e3|e3
  ·exact hd g e1 e3
  ·have:=(World.ownsRow.lt hr g e1).2;omega
 refine⟨k1,k4,fun g hg=>lN hgrow (World.ownsRow.lt h.ds g hg).2 (fun e=>h.d3 g hg e) (fun e=>by subst e;exact h.b5.not_row (by decide) h.ds hg.symm),?_⟩;exact { bel:=h.bel.trans k5,b1:=bo h.b1 (by decide) (kG h.b1 h.b5 (by decide)),b3:=bo h.b3 (by decide) (kG h.b3 h.b5 (by decide)),bb:=bo h.bb (by decide) (Ne.symm n5b),b4:=bo h.b4 (by decide) n45,b5:=k2,us:=cR h.us (fun g hg=>lN hgrow (World.ownsRow.lt h.us g hg).2 (fun e=>rA h.us h.rs (by decide) hg e) (fun e=>by subst e;exact h.b5.not_row (by decide) h.us hg.symm)),ds:=ro h.ds (by decide) h.d3,ks:=ro h.ks (by decide) h.d1,rs:=by unfold dP;rw[qy,List.length_append];exact k3,d1:=fun g e1 e2=>dn h.ks h.d1 g e1 e2,d2:=h.d2,d3:=fun g e1 e2=>dn h.ds h.d3 g e1 e2 }
end
attribute [local go_sem] Oper.semAt_some
section
variable {P:Program} {ops:Array Oper} {Q:Exit→Act→World→Prop} {md:Region.Mode}
theorem CJ{l:Array Bool}{i:Nat}(h:i∈Region.ready md ops l):i<l.size∧l.getD i true=false:=by
 have h1:=(mem_ready.1 h).1;refine⟨?_,h1⟩;rcases Nat.lt_or_ge i l.size with h'|h'
 ·exact h'
 ·rw[Array.getD_eq_getD_getElem?,Array.getElem?_eq_none h']at h1;cases h1
theorem yE:∀(l:List Bool) (i:Nat),i<l.length→l[i]?=some false→(l.set i true).count false+1=l.count false
 |[],i,h,_=>absurd h (Nat.not_lt_zero _)
 |b::l,0,_,h2=>by
  simp at h2;subst h2;simp
 |b::l,i+1,h,h2=>by
  have ih:=yE l i (by simpa using h) (by simpa using h2);rw[List.set_cons_succ,List.count_cons,List.count_cons];omega
theorem tY(I:Array Bool→Act→World→Prop)
  (hs:∀l a w i,I l a w→i∈Region.ready md ops l→wpOp P ops Q i (fun a' w'=>I (l.setIfInBounds i true) a' w') a w)
  (he:∀l a w,I l a w→Region.ready md ops l=[]→Q .normal a w):∀(fuel:Nat) (l:Array Bool) (a:Act) (w:World),I l a w→l.toList.count false≤fuel→wpAny P md ops Q fuel l a w
 |0,l,a,w,hI,hc=>by
  have hr:Region.ready md ops l=[]:=by
   cases e:Region.ready md ops l with
   |nil=>rfl
   |cons i rs =>
    obtain⟨h1,h2⟩:=CJ (md:=md) (ops:=ops) (l:=l) (i:=i) (by rw[e];exact List.mem_cons_self);have:false∈l.toList:=by
     rw[Array.getD_eq_getD_getElem?,Array.getElem?_eq_getElem h1]at h2;rw[←(show l[i]=false from h2)];exact Array.getElem_mem_toList h1
    have:=List.count_pos_iff.mpr this;omega
  exact⟨hr,he l a w hI hr⟩
 |fuel+1,l,a,w,hI,hc=>⟨he l a w hI,fun i hi=>wpOp_mono (fun a' w' h'=>tY I hs he fuel _ a' w' h' (by
   obtain⟨h1,h2⟩:=CJ hi;rw[Array.getD_eq_getD_getElem?,Array.getElem?_eq_getElem h1]at h2;have:=yE l.toList i (by simpa using h1) (by rw[Array.getElem?_toList,Array.getElem?_eq_getElem h1];exact congrArg some h2);rw[Array.toList_setIfInBounds];omega)) (hs l a w i hI hi)⟩
end
noncomputable def dZ(L:af)(xs:List (Int × Int)):List (Int × Int) × List (Int × Int):=xs.foldl (fun s x=>if(ij L).any (kt (cQ L x.1) s.1 x.1)then(s.1++[x],s.2++[x])else s) (eQ L,[])
theorem sR(L:af)(xs:List (Int × Int))(x:Int × Int):dZ L (xs++[x])=if(ij L).any (kt (cQ L x.1) (dZ L xs).1 x.1)then((dZ L xs).1++[x],(dZ L xs).2++[x])else dZ L xs:=by
 unfold dZ;rw[List.foldl_append];rfl
theorem vH(L:af)(xs:List (Int × Int)):(dZ L xs).1.length≤(eQ L).length+xs.length∧(dZ L xs).2.length≤xs.length:=by
 suffices H:∀ys:List (Int × Int),(dZ L ys.reverse).1.length≤(eQ L).length+ys.length∧(dZ L ys.reverse).2.length≤ys.length by
  have:=H xs.reverse;rw[List.reverse_reverse,List.length_reverse]at this;exact this
 intro ys;induction ys with
 |nil=>exact⟨Nat.le_refl _,Nat.le_refl _⟩
 |cons y ys ih =>
  rw[List.reverse_cons,sR];split
  ·simp only[List.length_append,List.length_cons,List.length_nil];omega
  ·simp only[List.length_cons];omega
theorem yi(S:List (Int × Int)):∀k,k≤S.length→(bk S k).map (·.2)=(S.take k).reverse
 |0,_=>rfl
 |k+1,h=>by
  have ih:=yi S k (by omega);rw[List.take_succ_eq_append_getElem (by omega),List.reverse_append];show gS S k::(bk S k).map (·.2)=_;rw[ih];unfold gS;rw[List.getElem?_eq_getElem (by omega)];rfl
noncomputable def dy(L:af):List (Int × Int):=(dZ L (dQ L).reverse).2.reverse
theorem yp{w:World}{g:Nat}{t:TypeId}{v v':Value}(h:Boxed w g t v)(h':Boxed w g t v'):v=v':=by
 have:=Option.some.inj (h.symm.trans h');injection this with e1;simpa using e1
theorem Kg{L:af}{d:Nat}(hp:aR L=true)(hd:bU L (d:Int)=true):(cQ L (d:Int)).length≤2000:=by
 have hL:=gy hp;have hv:=sq hp hd;obtain⟨o1,o2⟩:=eM hd;have hve:=hv.ends;obtain⟨k,e,q1d,q2,q3⟩:=hv.OK o1 o2;have hse:=dH q2;obtain⟨q1,hdl⟩:=eK k _ q1d;have hplc:=ef q1 hse.1 (by omega) (bP q2);have h1:=qm q1d hse.1 (by omega) (bP q2);have h2:dI L ((d:Int)+2)=(cQ L (d:Int)).map (aa L):=by
  unfold dI cQ;rw[hplc,oT _ hdl]
 rw[h2,List.length_map]at h1;omega
theorem Ek{W:World}{q:Nat}{u v:Value}{t:TypeId}(h:W.heap[q]?=some (.cells #[u,v] t (0,0))):W.cell? ⟨q,0,none⟩=some u:=by simp[World.cell?,h]
theorem El{W:World}{q:Nat}{u v:Value}{t:TypeId}(h:W.heap[q]?=some (.cells #[u,v] t (0,0))):W.cell? ⟨q,1,none⟩=some v:=by simp[World.cell?,h]
theorem Ns(w:World)(g:Nat)(V u v:Value)(t:TypeId):∀j x,[u,v][j]?=some x→((w.setCell ⟨g,0,none⟩ V).alloc (.cells #[u,v] t)).cell? ((⟨w.heap.size,0,none⟩:Addr).add j)=some x:=by
 have:=tQ (w.setCell ⟨g,0,none⟩ V) u v t;rw[World.size_setCell]at this;exact this
theorem LG(ao:Option Addr)(co B:Nat)(R:List (Int × Int))(W:World)(h:dP W B (.slice ao R.length co) R)(hl:R.length≤5000) :
  ah 66 #[.slice ao R.length co] W fun e w'=>e=.returned (.tuple #[])∧dr w' ao R.reverse∧W.grownBy w' (Value.slice ao R.length co).ownBlock:=by
 have hg0:∀row,W.grownBy W row:=fun _=>⟨rfl,rfl,rfl,Nat.le_refl _,fun _ _ _=>rfl⟩
 by_cases hn:R=[]
 ·subst hn;refine(LF ao co W).mono ?_;rintro e w' ⟨rfl,rfl⟩;exact⟨rfl,fun k hk=>absurd hk (Nat.not_lt_zero _),hg0 _⟩
 ·have hpos:0<R.length:=List.length_pos_iff.mpr hn;obtain⟨a',c',e,hA⟩:=dP.arg h;cases e;obtain⟨g,rfl,hg,_⟩:=hA 0 hpos;have hR:k8 g R 0 W:=⟨hg,fun k hk=>by
   obtain⟨g2,e2,_,k1,k2⟩:=hA k hk;injection e2 with e2;injection e2 with e2;subst e2;have r:rk R.length 0 k=k:=by unfold rk;rw[if_neg (by omega)]
   have e:gS R k=R[k]:=by unfold gS;rw[List.getElem?_eq_getElem hk];rfl
   rw[r,e];exact⟨k1,k2⟩,fun j=>World.ownsRow.frozenAt h j⟩
  exact LD g co R W hR hl
def xJ(L:af)(s:Int × Int):Prop:=∃d:Nat,s.1=(d:Int)∧bU L (d:Int)=true
theorem EU(L:af):∀s∈dQ L,xJ L s:=fun s hs=>by
 obtain⟨h0,_,h2,_⟩:=(j5 L [bx] s L.length).mp hs;rw[pO]at h2;exact⟨s.1.toNat,by omega,by rw[Int.toNat_of_nonneg h0];exact h2⟩
structure rQ (w:World) (a:Option Addr) (cap:Nat) (L:af) (b0 b1 b2 b3 b4 b5 b6 b7 b8 b9 c0 c1 c2:Bool) (x3 x4 x5 x8 x9 x10 x11 x12 x13 x14:Value) (y:World):Prop where
 bel:ai w y
 box:Boxed y w.heap.size 22 (.slice a L.length cap)
 f8:b0=true→x8=.slice a L.length cap
 f11:b3=true→x11=.slice a L.length cap
 f9:b1=true→∃p0 p1 p2 p4 p5 p6 p7 vu,x9=.agg #[p0,p1,p2,vu,p4,p5,p6,p7]∧rV y w.heap.size vu (ij L)
 f10:b2=true→rV y w.heap.size x10 (ij L)
 f12:b4=true→b5=true∨∃g,x12=.slice (some ⟨g,0,none⟩) 1 1∧g<y.heap.size∧y.cell? ⟨g,0,none⟩=some (.string bG)
 f13:b5=true→dP y w.heap.size x13 (eQ L)
 f14:b6=true→dP y w.heap.size x14 []
 d1:b5=true→b6=true→∀g,x13.ownBlock=some g→x14.ownBlock=some g→False
 g3:b7=true→∃g v,x3=.pointer (some ⟨g,0,none⟩)∧w.heap.size≤g∧Boxed y g 54 v∧(c0=true→v=x10)
 g4:b8=true→∃g v,x4=.pointer (some ⟨g,0,none⟩)∧w.heap.size≤g∧Boxed y g 60 v∧(c1=true→v=x13)
 g5:b9=true→∃g v,x5=.pointer (some ⟨g,0,none⟩)∧w.heap.size≤g∧Boxed y g 60 v∧(c2=true→v=x14)
 d2:b8=true→b9=true→x4≠x5
 o0:c0=true→b2=true
 o1:c1=true→b5=true
 o2:c2=true→b6=true
 o3:c0=true→b5=true
 o4:c1=true→c0=true
 o5:c2=true→c1=true
 o6:c0=true→b7=true
 o7:c1=true→b8=true
 o8:c2=true→b9=true
 ul:b1=true→(ij L).length≤L.length
section
variable {w:World} {a:Option Addr} {cap:Nat} {L:af} {b0 b1 b2 b3 b4 b5 b6 b7 b8 b9 c0 c1 c2:Bool} {x3 x4 x5 x8 x9 x10 x11 x12 x13 x14:Value} {y y':World}
theorem rQ.grow(h:rQ w a cap L b0 b1 b2 b3 b4 b5 b6 b7 b8 b9 c0 c1 c2 x3 x4 x5 x8 x9 x10 x11 x12 x13 x14 y)(hb:ai y y'):rQ w a cap L b0 b1 b2 b3 b4 b5 b6 b7 b8 b9 c0 c1 c2 x3 x4 x5 x8 x9 x10 x11 x12 x13 x14 y' where
 bel:=aw h.bel hb
 box:=kj h.box hb
 f8:=h.f8
 f11:=h.f11
 f9:=fun e=>by
  obtain⟨p0,p1,p2,p4,p5,p6,p7,vu,h1,h2⟩:=h.f9 e;exact⟨p0,p1,p2,p4,p5,p6,p7,vu,h1,bO h2 hb⟩
 f10:=fun e=>bO (h.f10 e) hb
 f12:=fun e=>(h.f12 e).imp id fun ⟨g,h1,h2,h3⟩=>⟨g,h1,Nat.lt_of_lt_of_le h2 hb.size,(hb.cell (p:=⟨g,0,none⟩) h2).trans h3⟩
 f13:=fun e=>bO (h.f13 e) hb
 f14:=fun e=>bO (h.f14 e) hb
 d1:=h.d1
 g3:=fun e=>by obtain⟨g,v,h1,h2,h3,h4⟩:=h.g3 e;exact⟨g,v,h1,h2,kj h3 hb,h4⟩
 g4:=fun e=>by obtain⟨g,v,h1,h2,h3,h4⟩:=h.g4 e;exact⟨g,v,h1,h2,kj h3 hb,h4⟩
 g5:=fun e=>by obtain⟨g,v,h1,h2,h3,h4⟩:=h.g5 e;exact⟨g,v,h1,h2,kj h3 hb,h4⟩
 d2:=h.d2
 o0:=h.o0
 o1:=h.o1
 o2:=h.o2
 o3:=h.o3
 o4:=h.o4
 o5:=h.o5
 o6:=h.o6
 o7:=h.o7
 o8:=h.o8
 ul:=h.ul
end
def DK(w:World)(a:Option Addr)(cap:Nat)(L:af)(l:Array Bool)(A:Act)(y:World):Prop:=∃b0 b1 b2 b3 b4 b5 b6 b7 b8 b9 c0 c1 c2 x3 x4 x5 x8 x9 x10 x11 x12 x13 x14,l=#[b0,b1,b2,b3,b4,b5,b6,b7,b8,b9,c0,c1,c2]∧A={ tmps:=#[.slice a L.length cap,.pointer (some ⟨w.heap.size,0,none⟩),.slice none 0 0,x3,x4,x5,undef,undef,x8,x9,x10,x11,x12,x13,x14,undef,undef,undef,undef,undef,undef,undef,undef,undef,undef,undef,undef,undef,undef,undef,undef,undef,undef,undef,undef,undef,undef],defers:=[] }∧rQ w a cap L b0 b1 b2 b3 b4 b5 b6 b7 b8 b9 c0 c1 c2 x3 x4 x5 x8 x9 x10 x11 x12 x13 x14 y
set_option maxRecDepth 100000 in
set_option maxHeartbeats 4000000 in
theorem G2(a:Option Addr)(cap:Nat)(L:af)(w:World)(ht:dj w)(h:aD w a L)(hp:aR L=true) :
  CallsIn Fence.wide 3 prog 37 #[.slice a L.length cap] w fun e W'=>∃av cv,e=.returned (.slice av (dy L).length cv)∧dr W' av (dy L)∧(∀p,av=some p→w.heap.size≤p.block∧p.block<W'.heap.size)∧ai w W':=by
 have hsg:=rn hp;have HR:Hid (∀W:World,ai w W→ah 34 #[.slice a L.length cap] W fun r w'=>∃p0 p1 p2 p4 p5 p6 p7 vu,r=.returned (.agg #[p0,p1,p2,vu,p4,p5,p6,p7])∧rV w' w.heap.size vu (ij L)∧(ij L).length≤L.length∧ai W w'):=fun W hW=>by
  refine(Q.CG a cap L W (ig ht hW) (h.call hW) hp).mono ?_;rintro r w' ⟨x,U,rfl,hO,hS,hUl,hb⟩;have hcn:=hS.cnt;rw[hS.us]at hO hcn;exact⟨_,_,_,_,_,_,_,_,rfl,dW hO hW.size,Nat.le_trans hcn hUl,hb⟩
 have HSP:Hid (∀(W:World) (g:Nat),ai w W→g<W.heap.size→W.cell? ⟨g,0,none⟩=some (.string bG)→ah 36 #[.slice a L.length cap,.slice (some ⟨g,0,none⟩) 1 1] W fun e w'=>∃v,e=.returned v∧dP w' W.heap.size v (eQ L)∧ai W w'):=fun W g hW hg hc =>
  tJ a cap L g 0 1 [bG] W (h.call hW) hp hsg (fun j hj=>by
   match j,hj with
   |0,_=>exact hc) hg (by simp)
 have HSD:Hid (∀(s:ByteArray) (W:World),aD W a L→ah 36 #[.slice a L.length cap,.slice (some ⟨W.heap.size,0,none⟩) 1 1] (W.alloc (.cells #[.string s] 9)) fun e w'=>∃v,e=.returned v∧dP w' (W.heap.size+1) v (bN L [s] L.length)∧ai W w'):=fun s W hW=>by
  have hB:=ay (Below.refl W.heap.size W) (.cells #[.string s] 9);refine(tJ a cap L W.heap.size 0 1 [s] _ (hW.call hB) hp hsg (BY W s) (by simp) (by simp)).mono ?_;rintro e w' ⟨v,rfl,hO,hb⟩;rw[World.size_alloc]at hO;exact⟨v,rfl,hO,aw hB hb⟩
 refine callsIn_of_wp_marks func37 rfl trivial ?_ rfl;simp only[ntmps37,List.size_toArray,List.length_cons,List.length_nil,Nat.reduceAdd,Nat.reduceSub,Array.replicate_succ,Array.replicate_zero,List.push_toArray,List.append_toArray,List.nil_append,List.cons_append];gi_wp2;refine wpIn_wide.2 ?_;refine wp_region_any (by kernel_rfl) ?_;refine tY (DK w a cap L) ?_ ?_ _ _ _ _ ?_ ?_
 ·rename_i Q0 K0 HK0;clear HK0;rintro l A y i ⟨b0,b1,b2,b3,b4,b5,b6,b7,b8,b9,c0,c1,c2,x3,x4,x5,x8,x9,x10,x11,x12,x13,x14,rfl,rfl,hF⟩ hi;obtain⟨h1,o,ho,h2⟩:=mem_ready.1 hi;have hi13:i<13:=by
   rcases Nat.lt_or_ge i 13 with h'|h'
   ·exact h'
   ·rw[Array.getElem?_eq_none (by simpa using h')]at ho;cases ho
  clear hi;obtain rfl|rfl|rfl|rfl|rfl|rfl|rfl|rfl|rfl|rfl|rfl|rfl|rfl:i=0∨i=1∨i=2∨i=3∨i=4∨i=5∨i=6∨i=7∨i=8∨i=9∨i=10∨i=11∨i=12:=by omega
  all_goals (simp at ho;subst ho;simp[Region.binds]at h1 h2)
  all_goals refine wpOp_step rfl (fun K hK=>?_)
  all_goals have hbc:=hF.box.cell
  ·go_simp;refine hK _ _ ⟨true,b1,b2,b3,b4,b5,b6,b7,b8,b9,c0,c1,c2,_,_,_,_,_,_,_,_,_,_,rfl,rfl,{ hF with f8:=fun _=>rfl }⟩
  ·have e8:=hF.f8 h2;subst e8;go_simp;refine(HR.out _ hF.bel).mono ?_;rintro e y1 ⟨p0,p1,p2,p4,p5,p6,p7,vu,rfl,hU,hul,hb⟩;refine hK _ _ ⟨b0,true,b2,b3,b4,b5,b6,b7,b8,b9,c0,c1,c2,_,_,_,_,_,_,_,_,_,_,rfl,rfl,{ hF.grow hb with f9:=fun _=>⟨p0,p1,p2,p4,p5,p6,p7,vu,rfl,hU⟩,ul:=fun _=>hul }⟩
  ·obtain⟨p0,p1,p2,p4,p5,p6,p7,vu,rfl,hU⟩:=hF.f9 h2;go_simp;refine hK _ _ ⟨b0,b1,true,b3,b4,b5,b6,b7,b8,b9,c0,c1,c2,_,_,_,_,_,_,_,_,_,_,rfl,rfl,{ hF with f10:=fun _=>hU,o0:=fun _=>rfl,g3:=fun e=>by { obtain⟨g,v,k1,k2,k3,k4⟩:=hF.g3 e;exact⟨g,v,k1,k2,k3,fun hc=>absurd (hF.o0 hc) (by rw[h1];decide)⟩ } }⟩
  ·go_simp;refine hK _ _ ⟨b0,b1,b2,true,b4,b5,b6,b7,b8,b9,c0,c1,c2,_,_,_,_,_,_,_,_,_,_,rfl,rfl,{ hF with f11:=fun _=>rfl }⟩
  ·have hb:ai y (y.alloc (.cells #[.string bG] 9)):=ay (Below.refl _ _) _;go_simp;refine hK _ _ ⟨b0,b1,b2,b3,true,b5,b6,b7,b8,b9,c0,c1,c2,_,_,_,_,_,_,_,_,_,_,rfl,rfl,{ hF.grow hb with f12:=fun _=>Or.inr ⟨y.heap.size,rfl,by simp,by simp[go_sem,bG]⟩ }⟩
  ·obtain⟨e3,e4,e1⟩:=h2;have e11:=hF.f11 e3;subst e11;rcases hF.f12 e4 with e5|⟨g,rfl,hg,hc⟩
   ·exact absurd e5 (by rw[h1];decide)
   go_simp;refine(HSP.out y g hF.bel hg hc).mono ?_;rintro e y1 ⟨v,rfl,hO,hb⟩;refine hK _ _ ⟨b0,b1,b2,b3,b4,true,b6,b7,b8,b9,c0,c1,c2,_,_,_,_,_,_,_,_,_,_,rfl,rfl,{ hF.grow hb with f13:=fun _=>dW hO hF.bel.size,f12:=fun _=>Or.inl rfl,d1:=fun _ e6 g' k1 k2=>absurd (World.ownsRow.lt hO g' k1).1 (Nat.not_le.mpr (World.ownsRow.lt (hF.f14 e6) g' k2).2),o1:=fun _=>rfl,o3:=fun _=>rfl,g4:=fun e=>by { obtain⟨g,v,k1,k2,k3,k4⟩:=(hF.grow hb).g4 e;exact⟨g,v,k1,k2,k3,fun hc=>absurd (hF.o1 hc) (by rw[h1];decide)⟩ } }⟩
  ·have hb:ai y (y.alloc (.cells #[] 64)):=ay (Below.refl _ _) _;have hO:=Da y;go_simp;refine hK _ _ ⟨b0,b1,b2,b3,b4,b5,true,b7,b8,b9,c0,c1,c2,_,_,_,_,_,_,_,_,_,_,rfl,rfl,{ hF.grow hb with f14:=fun _=>dW hO hF.bel.size,d1:=fun e5 _ g' k1 k2=>absurd (World.ownsRow.lt hO g' k2).1 (Nat.not_le.mpr (World.ownsRow.lt (hF.f13 e5) g' k1).2),o2:=fun _=>rfl,g5:=fun e=>by { obtain⟨g,v,k1,k2,k3,k4⟩:=(hF.grow hb).g5 e;exact⟨g,v,k1,k2,k3,fun hc=>absurd (hF.o2 hc) (by rw[h1];decide)⟩ } }⟩
  ·have hb:ai y (y.alloc (.cells #[.slice none 0 0] 54)):=ay (Below.refl _ _) _;go_simp;refine hK _ _ ⟨b0,b1,b2,b3,b4,b5,b6,true,b8,b9,c0,c1,c2,_,_,_,_,_,_,_,_,_,_,rfl,rfl,{ hF.grow hb with g3:=fun _=>⟨y.heap.size,_,rfl,hF.bel.size,Boxed.new y _ _,fun hc=>absurd (hF.o6 hc) (by rw[h1];decide)⟩,o6:=fun _=>rfl }⟩
  ·have hb:ai y (y.alloc (.cells #[.slice none 0 0] 60)):=ay (Below.refl _ _) _;go_simp;refine hK _ _ ⟨b0,b1,b2,b3,b4,b5,b6,b7,true,b9,c0,c1,c2,_,_,_,_,_,_,_,_,_,_,rfl,rfl,{ hF.grow hb with g4:=fun _=>⟨y.heap.size,_,rfl,hF.bel.size,Boxed.new y _ _,fun hc=>absurd (hF.o7 hc) (by rw[h1];decide)⟩,d2:=fun _ e9 ee=>by { obtain⟨g,v,k1,k2,k3,k4⟩:=hF.g5 e9;rw[k1]at ee;have:=k3.lt;simp at ee<;>omega },o7:=fun _=>rfl }⟩
  ·have hb:ai y (y.alloc (.cells #[.slice none 0 0] 60)):=ay (Below.refl _ _) _;go_simp;refine hK _ _ ⟨b0,b1,b2,b3,b4,b5,b6,b7,b8,true,c0,c1,c2,_,_,_,_,_,_,_,_,_,_,rfl,rfl,{ hF.grow hb with g5:=fun _=>⟨y.heap.size,_,rfl,hF.bel.size,Boxed.new y _ _,fun hc=>absurd (hF.o8 hc) (by rw[h1];decide)⟩,d2:=fun e8 _ ee=>by { obtain⟨g,v,k1,k2,k3,k4⟩:=hF.g4 e8;rw[k1]at ee;have:=k3.lt;simp at ee<;>omega },o8:=fun _=>rfl }⟩
  ·have eb:b7=true:=by clear hK hF HR HSP hbc;simp_all
   have e2:b2=true:=by clear hK hF HR HSP hbc;simp_all
   have e5:b5=true:=by clear hK hF HR HSP hbc;simp_all
   clear h2;obtain⟨g,v,rfl,hg,hbx,_⟩:=hF.g3 eb;obtain⟨av,cv,rfl,_⟩:=pE (hF.f10 e2);have hc1:=hbx.cell;have hc2:=hbx.frozen;go_simp;refine hK _ _ ⟨b0,b1,b2,b3,b4,b5,b6,b7,b8,b9,true,c1,c2,_,x4,x5,x8,x9,_,x11,x12,x13,x14,rfl,rfl,{ hF with bel:=hF.bel.setCell (p:=⟨g,0,none⟩) hg _,box:=hF.box.other (kG hF.box hbx (by decide)) _,f9:=fun e=>by { obtain⟨p0,p1,p2,p4,p5,p6,p7,vu,k1,k2⟩:=hF.f9 e;exact⟨p0,p1,p2,p4,p5,p6,p7,vu,k1,ky k2 hbx (by decide)⟩ },f10:=fun e=>ky (hF.f10 e) hbx (by decide),f12:=fun _=>Or.inl e5,f13:=fun e=>ky (hF.f13 e) hbx (by decide),f14:=fun e=>ky (hF.f14 e) hbx (by decide),g3:=fun _=>⟨g,_,rfl,hg,hbx.set _,fun _=>rfl⟩,g4:=fun e=>by { obtain⟨g',v',k1,k2,k3,k4⟩:=hF.g4 e;exact⟨g',v',k1,k2,k3.other (kG k3 hbx (by decide)) _,k4⟩ },g5:=fun e=>by { obtain⟨g',v',k1,k2,k3,k4⟩:=hF.g5 e;exact⟨g',v',k1,k2,k3.other (kG k3 hbx (by decide)) _,k4⟩ },o0:=fun _=>e2,o3:=fun _=>e5,o4:=fun _=>rfl,o6:=fun _=>eb }⟩
  ·have eb:b8=true:=by clear hK hF HR HSP hbc;simp_all
   have ec:c0=true:=by clear hK hF HR HSP hbc;simp_all
   have e5:b5=true:=by clear hK hF HR HSP hbc;simp_all
   clear h2;obtain⟨g,v,rfl,hg,hbx,_⟩:=hF.g4 eb;obtain⟨av,cv,rfl,_⟩:=pE (hF.f13 e5);have hc1:=hbx.cell;have hc2:=hbx.frozen;go_simp;refine hK _ _ ⟨b0,b1,b2,b3,b4,b5,b6,b7,b8,b9,c0,true,c2,x3,_,x5,x8,x9,x10,x11,x12,_,x14,rfl,rfl,{ hF with bel:=hF.bel.setCell (p:=⟨g,0,none⟩) hg _,box:=hF.box.other (kG hF.box hbx (by decide)) _,f9:=fun e=>by { obtain⟨p0,p1,p2,p4,p5,p6,p7,vu,k1,k2⟩:=hF.f9 e;exact⟨p0,p1,p2,p4,p5,p6,p7,vu,k1,ky k2 hbx (by decide)⟩ },f10:=fun e=>ky (hF.f10 e) hbx (by decide),f12:=fun _=>Or.inl e5,f13:=fun e=>ky (hF.f13 e) hbx (by decide),f14:=fun e=>ky (hF.f14 e) hbx (by decide),g4:=fun _=>⟨g,_,rfl,hg,hbx.set _,fun _=>rfl⟩,g3:=fun e=>by { obtain⟨g',v',k1,k2,k3,k4⟩:=hF.g3 e;exact⟨g',v',k1,k2,k3.other (kG k3 hbx (by decide)) _,k4⟩ },g5:=fun e=>by { obtain⟨g',v',k1,k2,k3,k4⟩:=hF.g5 e;exact⟨g',v',k1,k2,k3.other (fun ee=>hF.d2 eb e (by rw[k1,ee])) _,k4⟩ },o1:=fun _=>e5,o4:=fun _=>ec,o5:=fun _=>rfl,o7:=fun _=>eb }⟩
  ·have eb:b9=true:=by clear hK hF HR HSP hbc;simp_all
   have ec:c1=true:=by clear hK hF HR HSP hbc;simp_all
   have e5:b5=true:=by clear hK hF HR HSP hbc;simp_all
   have e6:b6=true:=by clear hK hF HR HSP hbc;simp_all
   clear h2;obtain⟨g,v,rfl,hg,hbx,_⟩:=hF.g5 eb;obtain⟨av,cv,rfl,_⟩:=pE (hF.f14 e6);have hc1:=hbx.cell;have hc2:=hbx.frozen;go_simp;refine hK _ _ ⟨b0,b1,b2,b3,b4,b5,b6,b7,b8,b9,c0,c1,true,x3,x4,_,x8,x9,x10,x11,x12,x13,_,rfl,rfl,{ hF with bel:=hF.bel.setCell (p:=⟨g,0,none⟩) hg _,box:=hF.box.other (kG hF.box hbx (by decide)) _,f9:=fun e=>by { obtain⟨p0,p1,p2,p4,p5,p6,p7,vu,k1,k2⟩:=hF.f9 e;exact⟨p0,p1,p2,p4,p5,p6,p7,vu,k1,ky k2 hbx (by decide)⟩ },f10:=fun e=>ky (hF.f10 e) hbx (by decide),f12:=fun _=>Or.inl e5,f13:=fun e=>ky (hF.f13 e) hbx (by decide),f14:=fun e=>ky (hF.f14 e) hbx (by decide),g5:=fun _=>⟨g,_,rfl,hg,hbx.set _,fun _=>rfl⟩,g3:=fun e=>by { obtain⟨g',v',k1,k2,k3,k4⟩:=hF.g3 e;exact⟨g',v',k1,k2,k3.other (kG k3 hbx (by decide)) _,k4⟩ },g4:=fun e=>by { obtain⟨g',v',k1,k2,k3,k4⟩:=hF.g4 e;exact⟨g',v',k1,k2,k3.other (fun ee=>hF.d2 e eb (by rw[k1,ee])) _,k4⟩ },o2:=fun _=>e6,o5:=fun _=>ec,o8:=fun _=>eb }⟩
 ·rename_i Q0 K0 HK0;rintro l A y ⟨b0,b1,b2,b3,b4,b5,b6,b7,b8,b9,c0,c1,c2,x3,x4,x5,x8,x9,x10,x11,x12,x13,x14,rfl,rfl,hF⟩ hr;have hn:∀i,¬(i∈Region.ready _ _ _):=fun i hi=>by rw[hr]at hi;cases hi
  obtain rfl:b0=true:=by
   cases b0 with
   |true=>rfl
   |false=>exact absurd (mem_ready.2 ⟨rfl,_,rfl,by simp[Region.binds]⟩) (hn 0)
  obtain rfl:b1=true:=by
   cases b1 with
   |true=>rfl
   |false=>exact absurd (mem_ready.2 ⟨rfl,_,rfl,by simp[Region.binds]⟩) (hn 1)
  obtain rfl:b2=true:=by
   cases b2 with
   |true=>rfl
   |false=>exact absurd (mem_ready.2 ⟨rfl,_,rfl,by simp[Region.binds]⟩) (hn 2)
  obtain rfl:b3=true:=by
   cases b3 with
   |true=>rfl
   |false=>exact absurd (mem_ready.2 ⟨rfl,_,rfl,by simp[Region.binds]⟩) (hn 3)
  obtain rfl:b4=true:=by
   cases b4 with
   |true=>rfl
   |false=>exact absurd (mem_ready.2 ⟨rfl,_,rfl,by simp[Region.binds]⟩) (hn 4)
  obtain rfl:b5=true:=by
   cases b5 with
   |true=>rfl
   |false=>exact absurd (mem_ready.2 ⟨rfl,_,rfl,by simp[Region.binds]⟩) (hn 5)
  obtain rfl:b6=true:=by
   cases b6 with
   |true=>rfl
   |false=>exact absurd (mem_ready.2 ⟨rfl,_,rfl,by simp[Region.binds]⟩) (hn 6)
  obtain rfl:b7=true:=by
   cases b7 with
   |true=>rfl
   |false=>exact absurd (mem_ready.2 ⟨rfl,_,rfl,by simp[Region.binds]⟩) (hn 7)
  obtain rfl:b8=true:=by
   cases b8 with
   |true=>rfl
   |false=>exact absurd (mem_ready.2 ⟨rfl,_,rfl,by simp[Region.binds]⟩) (hn 8)
  obtain rfl:b9=true:=by
   cases b9 with
   |true=>rfl
   |false=>exact absurd (mem_ready.2 ⟨rfl,_,rfl,by simp[Region.binds]⟩) (hn 9)
  obtain rfl:c0=true:=by
   cases c0 with
   |true=>rfl
   |false=>exact absurd (mem_ready.2 ⟨rfl,_,rfl,by simp[Region.binds]⟩) (hn 10)
  obtain rfl:c1=true:=by
   cases c1 with
   |true=>rfl
   |false=>exact absurd (mem_ready.2 ⟨rfl,_,rfl,by simp[Region.binds]⟩) (hn 11)
  obtain rfl:c2=true:=by
   cases c2 with
   |true=>rfl
   |false=>exact absurd (mem_ready.2 ⟨rfl,_,rfl,by simp[Region.binds]⟩) (hn 12)
  clear hn hr;refine HK0 _ _ ?_;clear HK0 HR HSP;obtain⟨g3,v3,rfl,hg3,hb3,e3⟩:=hF.g3 rfl;obtain⟨g4,v4,rfl,hg4,hb4,e4⟩:=hF.g4 rfl;obtain⟨g5,v5,rfl,hg5,hb5,e5⟩:=hF.g5 rfl;obtain rfl:=e3 rfl;obtain rfl:=e4 rfl;obtain rfl:=e5 rfl;have n45:g4≠g5:=fun e=>hF.d2 rfl rfl (by rw[e])
  have hU0:=hF.f10 rfl;have hK0:=hF.f13 rfl;have hR0:=hF.f14 rfl;have hd0:=hF.d1 rfl rfl;have hbel:=hF.bel;have hbox:=hF.box;have hul:=hF.ul rfl;clear hF e3 e4 e5;have c1:=hbox.cell;gi_wp2_with fail;refine⟨trivial,(callsIn_wide.2 (HSD.out bx _ (h.call hbel))).mono ?_⟩;rintro e y2 ⟨va,rfl,hD,hb2⟩;obtain⟨a3,c3,rfl,hA3⟩:=hD.arg;gi_wp2_with fail;refine⟨trivial,(D9 _ a3 _ c3 y2).mono ?_⟩;rintro e y3 ⟨rfl,rfl⟩;gi_wp2;have hde:bN L [bx] L.length=dQ L:=rfl;rw[hde]at hD hA3 ⊢;clear hde;have hl2:=gy hp;have hdl:(dQ L).length≤2000:=by have:=nc L [bx] L.length;unfold dQ;omega
  have hfl:(eQ L).length≤2000:=by have:=nc L [bG] L.length;unfold eQ;omega
  obtain⟨W0,hW0⟩:∃W0,W0=y2.alloc (.cells #[.slice a3 (dQ L).length c3] 60):=⟨_,rfl⟩;have hbW:ai y2 W0:=by rw[hW0];exact ay (Below.refl _ _) _
  have hM0:jv w (.slice a L.length cap) g3 g4 g5 y2.heap.size v3 (.slice a3 (dQ L).length c3) (ij L) (dQ L) (eQ L) [] v4 v5 W0:=by
   have hyz:=hb2.size;have lk:=World.ownsRow.lt hK0;have lr:=World.ownsRow.lt hR0;have ld:=World.ownsRow.lt hD;exact { bel:=aw (aw hbel hb2) hbW,b1:=kj (kj hbox hb2) hbW,b3:=kj (kj hb3 hb2) hbW,bb:=by rw[hW0];exact Boxed.new y2 _ _,b4:=kj (kj hb4 hb2) hbW,b5:=kj (kj hb5 hb2) hbW,us:=bO (bO hU0 hb2) hbW,ds:=bO (dW hD (Nat.le_succ_of_le hbel.size)) hbW,ks:=bO (bO hK0 hb2) hbW,rs:=bO (bO hR0 hb2) hbW,d1:=hd0,d2:=fun g e1 e2=>by { have h1:=(ld g e1).1;have h2:=(lk g e2).2;omega },d3:=fun g e1 e2=>by { have h1:=(ld g e1).1;have h2:=(lr g e2).2;omega } }
  have hsz:W0.heap.size=y2.heap.size+1:=by rw[hW0];simp
  have n4b:g4≠y2.heap.size:=by have h1:=hb4.lt;have h2:=hb2.size;omega
  have n5b:g5≠y2.heap.size:=by have h1:=hb5.lt;have h2:=hb2.size;omega
  have ha3:∀p,a3=some p→p.block<W0.heap.size:=fun p e=>by
   have:=(World.ownsRow.lt hM0.ds p.block (by rw[e];simp[Value.ownBlock])).2;exact this
  have hww:w.heap.size≤W0.heap.size:=hM0.bel.size;have hA0:=hA3.call hbW;rw[←hW0];clear hW0 hb3 hb4 hb5 hU0 hK0 hR0 hd0 hbel hbox c1 hD hA3 hb2 hbW HSD
  refine wpIn_rangeFunc_ownH rfl (by omega) (gf:=124) (lb:=#[.pointer (some ⟨y2.heap.size,0,none⟩)]) rfl trivial (enters_of func124 (by kernel_rfl) rfl)
   (Ef (Pp:=xJ L) 2 (by omega) y2.heap.size a3 c3 (dQ L) (by omega) (EU L) W0 (by omega) hM0.bb.cell hA0) vG (fun W l _ o' hl _ _ _=>G5 (by omega) ha3 W l o' hl) (Below.refl _ _) (fun _=>rfl)
   (fun pre W=>∃vk vo,jv w (.slice a L.length cap) g3 g4 g5 y2.heap.size v3 (.slice a3 (dQ L).length c3) (ij L) (dQ L) (dZ L (pre.map (·.1.2))).1 (dZ L (pre.map (·.1.2))).2 vk vo W)
   (fun _ _ _=>False)
   (fun s A B row hs hg hr=>by { obtain⟨vk,vo,hs⟩:=hs;exact⟨vk,vo,hs.R hg (fun r e=>⟨Nat.le_trans hww (hr r e).1,(hr r e).2⟩)⟩ })
   (fun c s A B row hs hg hr=>hs)
   ⟨v4,v5,hM0⟩
   (fun x a' W=>∃q vk vo,a'={ tmps:=#[.slice a L.length cap,.pointer (some ⟨w.heap.size,0,none⟩),.slice none 0 0,.pointer (some ⟨g3,0,none⟩),.pointer (some ⟨g4,0,none⟩),.pointer (some ⟨g5,0,none⟩),undef,.pointer (some ⟨q,0,none⟩),x8,x9,v3,x11,x12,v4,v5,.slice a L.length cap,.slice (some ⟨y.heap.size,0,none⟩) 1 1,.slice a3 (dQ L).length c3,.func (.func 124) #[] #[.pointer (some ⟨y2.heap.size,0,none⟩)],.int .i64 x.1.1,.agg #[.int .i64 x.1.2.1,.int .i64 x.1.2.2],undef,undef,undef,undef,undef,undef,undef,undef,undef,undef,undef,undef,undef,undef,undef,undef],defers:=[] }∧W.heap[q]?=some (.cells #[.int .i64 x.1.2.1,.int .i64 x.1.2.2] 64 (0,0))∧Boxed W g4 60 vk∧Boxed W g5 60 vo∧vk.ownBlock≠some q∧vo.ownBlock≠some q)
   (fun x a' s A B row hs hg hr=>by
    obtain⟨q,vk,vo,e1,hq,k4,k5,n1,n2⟩:=hs;refine⟨q,vk,vo,e1,(hg.block q (Array.getElem?_eq_some_iff.1 hq).1 (fun e=>?_)).trans hq,nz k4 hg hr,nz k5 hg hr,n1,n2⟩;obtain⟨_,o,ho,hc⟩:=hr q e.symm;rw[hq]at ho;cases ho;cases hc)
   ?assign ?body ?done ?stop
  case assign =>
   rintro l pre x W K ⟨vk,vo,hM⟩ hK;simp only[qq];have hb:ai W (W.alloc (.cells #[.int .i64 x.1.2.1,.int .i64 x.1.2.2] 64)):=ay (Below.refl _ _) _;gi_wp2;refine hK _ _ ((KeepsOthers.alloc W _).from _) ⟨hb.size,hb.block _ hM.bb.lt,fun p e=>hb.block _ (World.ownsRow.lt hM.ds p.block (by rw[e];simp[Value.ownBlock])).2⟩ ⟨vk,vo,hM.grow hb⟩ ⟨W.heap.size,vk,vo,rfl,World.alloc_heap_new W _,hM.b4.alloc _,hM.b5.alloc _,fun e=>absurd (World.ownsRow.lt hM.ks _ e).2 (Nat.lt_irrefl _),fun e=>absurd (World.ownsRow.lt hM.rs _ e).2 (Nat.lt_irrefl _)⟩
  case body =>
   rintro l pre x a' W hl _ ⟨vk,vo,hM⟩ ⟨q,vk',vo',rfl,hq,k4,k5,nk,no⟩ hlen;obtain rfl:=yp hM.b4 k4;obtain rfl:=yp hM.b5 k5;clear k4 k5;have hkl:=vH L (pre.map (·.1.2));rw[List.length_map]at hkl;obtain⟨d,hd,hdo⟩:=x.2;obtain⟨v,hv⟩:∃v,x.1.2.2=v:=⟨_,rfl⟩;have hks:dZ L ((pre++[x]).map (·.1.2))=if(ij L).any (kt (cQ L (d:Int)) (dZ L (pre.map (·.1.2))).1 (d:Int))then((dZ L (pre.map (·.1.2))).1++[((d:Int),v)],(dZ L (pre.map (·.1.2))).2++[((d:Int),v)])else((dZ L (pre.map (·.1.2))).1,(dZ L (pre.map (·.1.2))).2):=by
    rw[List.map_append];show dZ L (pre.map (·.1.2)++[x.1.2])=_;rw[show x.1.2=((d:Int),v)from Prod.ext hd hv,sR]
   have HKS:=aj hks;rw[hd,hv]at hq ⊢;clear hks hd hv;generalize (dZ L (pre.map (·.1.2))).2=R at hM hkl HKS;generalize (dZ L (pre.map (·.1.2))).1=K at hM hkl HKS;obtain⟨ak,ck,rfl,hAk⟩:=hM.ks.arg;obtain⟨au,cu,rfl,hAu⟩:=Nx hM.us;have HI:Hid (ah 65 #[.slice a L.length cap,.agg #[.int .i64 d,.int .i64 v],.slice au (ij L).length cu,.slice ak K.length ck] W (aA (.bool ((ij L).any (kt (cQ L (d:Int)) K (d:Int)))) W)) :=
    GB a cap L d v (ij L) K au ak cu ck W (h.call hM.bel) hp hsg hdo hAu hAk (by omega) (by omega) (by have:=Kg hp hdo;omega)
   generalize (ij L).any (kt (cQ L (d:Int)) K (d:Int))=o at HI HKS;generalize x.1.1=ix;have ce1:=hM.b1.cell;have ce3:=hM.b3.cell;have ce4:=hM.b4.cell;have cq0:W.cell? ⟨q,0,none⟩=some (.int .i64 d):=by simp[World.cell?,hq]
   have cq1:W.cell? ⟨q,1,none⟩=some (.int .i64 v):=by simp[World.cell?,hq]
   have hqz:q<W.heap.size:=(Array.getElem?_eq_some_iff.1 hq).1;gi_wp2_with fail;refine⟨trivial,(CallsIn.inRound l (callsIn_wide.2 HI.out)).mono ?_⟩;rintro r W1 ⟨rfl,hb1⟩;have hM1:=hM.grow hb1;have hq1:=(hb1.block q hqz).trans hq;have kpb:∀{X Y:World},KeepsOthers X Y→Boxed X y2.heap.size 60 (.slice a3 (dQ L).length c3)→Boxed Y y2.heap.size 60 (.slice a3 (dQ L).length c3)→(∀g,(Value.slice a3 (dQ L).length c3).ownBlock=some g→Y.heap[g]?=X.heap[g]?)→lJ y2.heap.size a3 X Y:=fun k1 k2 k3 k4=>⟨k1.size,k3.trans k2.symm,fun p e=>k4 p.block (by rw[e];simp[Value.ownBlock])⟩
   have HKP:Hid (∀{X Y:World},KeepsOthers X Y→Boxed X y2.heap.size 60 (.slice a3 (dQ L).length c3)→Boxed Y y2.heap.size 60 (.slice a3 (dQ L).length c3)→(∀g,(Value.slice a3 (dQ L).length c3).ownBlock=some g→Y.heap[g]?=X.heap[g]?)→lJ y2.heap.size a3 X Y):=kpb;have HK01:Hid (KeepsOthers W W1):=KeepsOthers.of_grownBy (yh hb1) (fun j o e _=>by cases e);have HP01:Hid (lJ y2.heap.size a3 W W1):=kpb HK01.out hM.bb hM1.bb (fun g e=>hb1.block g (World.ownsRow.lt hM.ds g e).2);clear kpb HI ce1 ce3 ce4 cq0 cq1 hM hb1 hq hAk hAu;cases o
   ·have HE:Hid (dZ L ((pre++[x]).map (·.1.2))=(K,R)):=HKS.out;clear HKS;gi_wp2;exact⟨HK01.out.from _,HP01.out,_,_,by rw[HE.out];exact hM1⟩
   ·have HE:Hid (dZ L ((pre++[x]).map (·.1.2))=(K++[((d:Int),v)],R++[((d:Int),v)])):=HKS.out;clear HKS;have c4:=hM1.b4.cell;have f4:=hM1.b4.frozen;have cq0:W1.cell? ⟨q,0,none⟩=some (.int .i64 d):=by simp[World.cell?,hq1]
    have cq1:W1.cell? ⟨q,1,none⟩=some (.int .i64 v):=by simp[World.cell?,hq1]
    have hqz1:q<W1.heap.size:=(Array.getElem?_eq_some_iff.1 hq1).1;have hcc2:∀u∈[Value.int .i64 d,Value.int .i64 v],u.oneCell'=true:=fun u hu=>by
     simp at hu;rcases hu with rfl|rfl<;>rfl
    have hbz1:w.heap.size≤(W1.alloc (.cells #[.int .i64 d,.int .i64 v] 64)).heap.size:=by simp;have:=hM1.bel.size;omega
    have hbk1:K.length+1≤maxLen:=by unfold maxLen;omega
    have hbk2:(K.length+1)*16≤140737488355328:=by omega
    obtain⟨i0,hi,hz0,hz1,hz2⟩:=info_parts vr;have hbr1:R.length+1≤maxLen:=by unfold maxLen;omega
    have hbr2:(R.length+1)*16≤140737488355328:=by omega
    have hqg4:q≠g4:=fun e=>by
     have hh:=hM1.b4;rw[←e]at hh;have:=Option.some.inj (hq1.symm.trans hh);injection this with _ e2;exact absurd e2 (by decide)
    gi_wp2_with (first|(gi_at_builtin;refine DI _ rfl _ _ 60 rfl w.heap.size 64 i0 (.agg #[.int .i64 0,.int .i64 0]) 2 16 Tryz.underlying60 hi hz0 hz1 hz2 rfl (by decide) _ R.length _ rfl (World.ownsRow.alloc hM2.rs _) ⟨w1.heap.size,0,none⟩ 1 1 [.int .i64 d,.int .i64 v] rfl rfl (Ns w1 g4 _ _ _ _) hcc2 hbr1 hbr2 hz5 ?_;intro v'' w3 hown3 hgrow3 hloc3;obtain⟨g'',cap'',rfl⟩:=ownsRow_succ hown3;obtain⟨hv3,hko3,hva3,hM3⟩:=hM2.Pg (s:=((d:Int),v)) hown3 hgrow3 hloc3 hg5 n45 n5b;have hc3:=hv3.cell;have hf3:=hv3.frozen)|(gi_at_builtin;refine DI _ rfl _ _ 60 rfl w.heap.size 64 i0 (.agg #[.int .i64 0,.int .i64 0]) 2 16 Tryz.underlying60 hi hz0 hz1 hz2 rfl (by decide) _ K.length _ rfl (World.ownsRow.alloc hM1.ks _) ⟨W1.heap.size,0,none⟩ 1 1 [.int .i64 d,.int .i64 v] rfl rfl (tQ W1 _ _ _) hcc2 hbk1 hbk2 hbz1 ?_;intro v' w1 hown' hgrow hloc;obtain⟨g',cap',rfl⟩:=ownsRow_succ hown';obtain⟨hv1,hko,hva,hM2⟩:=hM1.Pe (s:=((d:Int),v)) hown' hgrow hloc hg4 n45 n4b;have hc1:=hv1.cell;have hf1:=hv1.frozen;have hq2:=(lN (g:=g4) (v':=.slice (some ⟨g',0,none⟩) (K.length+1) cap') hgrow hqz1 nk hqg4).trans hq1;have hqz2:=(Array.getElem?_eq_some_iff.1 hq2).1;have c5:=hM2.b5.cell;have f5:=hM2.b5.frozen;have cr0:=Ek hq2;have cr1:=El hq2;have hbz2:=hM2.bel.size;have hz5:w.heap.size≤((w1.setCell ⟨g4,0,none⟩ (.slice (some ⟨g',0,none⟩) (K.length+1) cap')).alloc (.cells #[.int .i64 d,.int .i64 v] 64)).heap.size:=(by rw[World.size_alloc];omega)));exact⟨((HK01.out.trans hko).trans hko3).from _,vG (vG HP01.out (HKP.out hko hM1.bb hM2.bb hva)) (HKP.out hko3 hM2.bb hM3.bb hva3),_,_,by rw[HE.out];exact hM3⟩
  case done =>
   rintro D ys W hD hys ⟨vk,vo,hM⟩ hKD;have hkl:=vH L (ys.map (·.1.2));have hmap:ys.map (·.1.2)=(dQ L).reverse:=by
    have h1:ys.map (·.1.2)=(ys.map (·.1)).map (·.2):=by rw[List.map_map];rfl
    rw[h1,hys,yi _ _ (Nat.le_refl _),List.take_length]
   rw[hmap]at hM hkl;have HE:Hid ((dZ L (dQ L).reverse).2.reverse=dy L):=rfl;rw[List.length_reverse]at hkl;generalize (dZ L (dQ L).reverse).2=R at hM hkl HE;generalize (dZ L (dQ L).reverse).1=K at hM hkl;obtain⟨ao,co,rfl,hAo⟩:=hM.rs.arg;have c5:=hM.b5.cell;clear hmap hys hAo;gi_wp2_with fail;refine⟨trivial,(callsIn_wide.2 (LG ao co w.heap.size R W hM.rs (by omega))).mono ?_⟩;rintro r W2 ⟨rfl,hA2,hg2⟩;have hko:KeepsOthers W W2:=KeepsOthers.of_grownBy hg2 (fun j o e hj=>by
    rcases hM.rs.2 with⟨e1,_⟩|⟨g',cap',cur,e1,_,hgb,_⟩
    ·rw[e1]at e;simp[Value.ownBlock]at e
    ·rw[e1]at e;simp[Value.ownBlock]at e;subst e;rw[hgb]at hj;cases hj;rfl)
   have hK2:=hko.same D _ hKD rfl;have hb5:Boxed W2 g5 60 (.slice ao R.length co):=hM.b5.kept hg2 (hM.b5.not_row (by decide) hM.rs);have c6:=hb5.cell;have hbl:Below w.heap.size W W2:=⟨hg2.os,hg2.tape,hg2.output,hg2.size,fun k hk=>hg2.block k (Nat.lt_of_lt_of_le hk hM.bel.size) (fun e=>by have:=(World.ownsRow.lt hM.rs k e.symm).1;omega)⟩;gi_wp2;refine⟨by simp,.inl ⟨_,_,rfl,run_takeDeferred hK2,?_⟩⟩;have hlen:R.length=(dy L).length:=by rw[←HE.out,List.length_reverse]
   refine⟨.slice ao R.length co,by simp[results,Tryz.results37,go_sem],ao,co,by rw[hlen],?_,fun p e=>⟨(World.ownsRow.lt hM.rs p.block (by rw[e];simp[Value.ownBlock])).1,by simpa using Nat.lt_of_lt_of_le (World.ownsRow.lt hM.rs p.block (by rw[e];simp[Value.ownBlock])).2 hg2.size⟩,(hM.bel.trans hbl).trans (belowK_b (w:=w) (Nat.le_refl _) W2 D _ _ (by omega) hK2 rfl rfl)⟩;rw[←HE.out];intro k hk;obtain⟨g,ha,hg,k1,k2⟩:=hA2 k hk;have hgD:g≠D:=fun e=>by
    subst e;rw[show W2.cell? ⟨g,k*2,none⟩=none by simp[World.cell?,hK2]]at k1;cases k1
   have hput:(W2.putObj D (.deferred none)).heap[g]?=W2.heap[g]?:=World.putObj_heap_other hgD;exact⟨g,ha,by simpa using hg,(World.cell?_of_block (w:=W2) (a:=⟨g,k*2,none⟩) hput).trans k1,(World.cell?_of_block (w:=W2) (a:=⟨g,k*2+1,none⟩) hput).trans k2⟩
  case stop =>
   rintro D c pre W _ _ h _;exact h.elim
 ·refine⟨false,false,false,false,false,false,false,false,false,false,false,false,false,undef,undef,undef,undef,undef,undef,undef,undef,undef,undef,rfl,rfl,?_⟩;exact { bel:=(ay (Below.refl _ _) _).drew,box:=Boxed.new w _ _,f8:=nofun,f11:=nofun,f9:=nofun,f10:=nofun,f12:=nofun,f13:=nofun,f14:=nofun,d1:=nofun,g3:=nofun,g4:=nofun,g5:=nofun,d2:=nofun,o0:=nofun,o1:=nofun,o2:=nofun,o3:=nofun,o4:=nofun,o5:=nofun,o6:=nofun,o7:=nofun,o8:=nofun,ul:=nofun }
 ·decide
theorem G0(a:Option Addr)(cap:Nat)(L:af)(w:World)(ht:dj w)(h:aD w a L)(hp:aR L=true) :
  ah 37 #[.slice a L.length cap] w fun e W'=>∃av cv,e=.returned (.slice av (dy L).length cv)∧dr W' av (dy L)∧(∀p,av=some p→w.heap.size≤p.block∧p.block<W'.heap.size)∧ai w W':=callsIn_wide.1 (G2 a cap L w ht h hp)
theorem pN{W W':World}{a:Option Addr}{S:List (Int × Int)}{row:Option Nat}(h:dr W a S)(hg:W.grownBy W' row)(hn:∀p,a=some p→row≠some p.block):dr W' a S:=fun k hk=>by
 obtain⟨g,ha,hz,h1,h2⟩:=h k hk;have e:W'.heap[g]?=W.heap[g]?:=hg.block g hz (fun e=>hn _ ha e.symm);exact⟨g,ha,Nat.lt_of_lt_of_le hz hg.size,(World.cell?_of_block (w:=W) (a:=⟨g,k*2,none⟩) e).trans h1,(World.cell?_of_block (w:=W) (a:=⟨g,k*2+1,none⟩) e).trans h2⟩
structure mu (w:World) (a1 av:Option Addr) (L:af) (S F:List (Int × Int)) (X:List Int) (vf vo:Value) (k:Nat) (W:World):Prop where
 bel:ai w W
 lp:dr W a1 (fi L)
 sp:dr W av S
 fs:dP W w.heap.size vf F
 xs:bY W w.heap.size vo X
 n1:∀p,a1=some p→p.block<W.heap.size∧vf.ownBlock≠some p.block∧vo.ownBlock≠some p.block
 n2:∀p,av=some p→p.block<W.heap.size∧vf.ownBlock≠some p.block∧vo.ownBlock≠some p.block
 fl:F.length≤2000+k
 xl:X.length≤k
 x0:X=[]→F=eQ L∧∀s∈S.take k,iK L s.1=false
 x1:X≠[]→∃s∈S,iK L s.1=true
section
variable {w:World} {a1 av:Option Addr} {L:af} {S F:List (Int × Int)} {X:List Int} {vf vo:Value} {k:Nat} {W W':World}
theorem mu.grow(h:mu w a1 av L S F X vf vo k W)(hb:ai W W'):mu w a1 av L S F X vf vo k W' :=
 { h with bel:=aw h.bel hb,lp:=h.lp.call hb,sp:=h.sp.call hb,fs:=bO h.fs hb,xs:=bO h.xs hb,n1:=fun p e=>⟨Nat.lt_of_lt_of_le (h.n1 p e).1 hb.size,(h.n1 p e).2⟩,n2:=fun p e=>⟨Nat.lt_of_lt_of_le (h.n2 p e).1 hb.size,(h.n2 p e).2⟩ }
theorem mu.next(h:mu w a1 av L S F X vf vo k W)(hk:k<S.length)(hn:X=[]→iK L S[k].1=false):mu w a1 av L S F X vf vo (k+1) W :=
 { h with fl:=by have:=h.fl;omega,xl:=by have:=h.xl;omega,x0:=fun e=>⟨(h.x0 e).1,fun s hs=>by
   rw[List.take_succ_eq_append_getElem hk,List.mem_append,List.mem_singleton]at hs;rcases hs with hs|rfl
   ·exact(h.x0 e).2 s hs
   ·exact hn e⟩ }
theorem mu.O5(h:mu w a1 av L S F X vf vo k W){w1:World}{v':Value}{s:Int × Int}(hown:w1.ownsRow w.heap.size 64 2 v' (F.length+1) (jk F++[.int .i64 s.1,.int .i64 s.2]))(hgrow:W.grownBy w1 vf.ownBlock)(hloc:∀g,v'.ownBlock=some g→vf.ownBlock=some g∨g=W.heap.size) :
  dP w1 w.heap.size v' (F++[s])∧bY w1 w.heap.size vo X∧dr w1 a1 (fi L)∧dr w1 av S∧ai w w1∧(∀p,a1=some p→v'.ownBlock≠some p.block)∧(∀p,av=some p→v'.ownBlock≠some p.block):=by
 refine⟨by unfold dP;rw[qy,List.length_append];exact hown,cR h.xs (fun g hg=>hgrow.block g (World.ownsRow.lt h.xs g hg).2 (fun e=>rA h.xs h.fs (by decide) hg e.symm)),pN h.lp hgrow (fun p e=>(h.n1 p e).2.1),pN h.sp hgrow (fun p e=>(h.n2 p e).2.1),h.bel.grown hgrow (h.bel.size) (fun g hg=>(World.ownsRow.lt h.fs g hg).1),fun p e e2=>?_,fun p e e2=>?_⟩
 ·rcases hloc _ e2 with e3|e3
  ·exact(h.n1 p e).2.1 e3
  ·have:=(h.n1 p e).1;omega
 ·rcases hloc _ e2 with e3|e3
  ·exact(h.n2 p e).2.1 e3
  ·have:=(h.n2 p e).1;omega
end
theorem uV(L:af)(m p:Nat)(h:L.length≤p+m+1):∀j,eZ L (m+j) p=eZ L m p
 |0=>rfl
 |j+1=>by
  show(if p+(m+j)+2=L.length then _ else eZ L (m+j) p)=_;rw[if_neg (by omega)];exact uV L m p h j
theorem Ft{L:af}{p:Nat}(h:p+2≤L.length):fG L p=(bU L p&&kP L (eZ L (L.length-2-p)) (p:Int)):=by
 have h1:=uV L (L.length-2-p+1) p (by omega) p;rw[show L.length-2-p+1+p=L.length-1 by omega]at h1;unfold fG;rw[h1];show(if p+(L.length-2-p)+2=L.length then _ else _)=_;rw[if_pos (by omega)]
theorem zS{L:af}{p q:Nat}(h:p+2≤L.length)(hq:p<q):eZ L (L.length-2-p) q=fG L q:=by
 have h1:=uV L (L.length-2-p) q (by omega) (p+1);rw[show L.length-2-p+(p+1)=L.length-1 by omega]at h1;exact h1.symm
theorem Gt{at_ d:Int}{K:List (Int × Int)}(hd:0≤d):d<bM at_ K (-1)↔∃s∈K,fF s at_=true∧d<s.1:=by
 obtain⟨_,h2,h3⟩:=sK at_ K (-1);constructor
 ·intro h;rcases h2 with e|⟨s,hs,e,ha⟩
  ·omega
  ·exact⟨s,hs,ha,by omega⟩
 ·rintro⟨s,hs,ha,hl⟩;have:=h3 s hs ha;omega
def xL(L:af)(k:Nat)(R:List (Int × Int)):Prop:=∀s,s∈R↔(s∈dQ L∧(k:Int)≤s.1∧fG L s.1.toNat=true)
theorem DR{L:af}(hp:aR L=true){k:Nat}(hk:k+2≤L.length)(hd:bU L (k:Int)=true){R:List (Int × Int)}(hR:xL L (k+1) R):(ij L).any (kt (cQ L (k:Int)) (eQ L++R) (k:Int))=fG L k:=by
 rw[Ft hk,hd,Bool.true_and,Bool.eq_iff_iff,G3 hp hd,List.any_eq_true];refine exists_congr fun u=>and_congr_right fun _=>?_
 unfold kt;rw[Bool.and_eq_true,decide_eq_true_eq,List.any_eq_true,Gt (by omega)];refine and_congr ⟨fun ⟨y,hy,e⟩=>by rw[beq_iff_eq]at e;rw[e];exact hy,fun hm=>⟨_,hm,by simp⟩⟩ ⟨?_,?_⟩
 ·rintro⟨s,hs,ha,hl⟩;rcases List.mem_append.mp hs with hs|hs
  ·obtain⟨c1,c2,c3⟩:=p8 (H:=[bG]) hs ha;rw[tL,Bool.and_eq_true]at c2;exact⟨s.1,hl,c1,by unfold jm;rw[c2.1,c2.2];rfl⟩
  ·obtain⟨e1,e2,e3⟩:=(hR s).mp hs;obtain⟨c1,c2,c3⟩:=p8 (H:=[bx]) e1 ha;rw[pO]at c2;unfold bU at c2;rw[Bool.and_eq_true]at c2;refine⟨s.1,hl,c1,?_⟩;unfold jm;rw[c2.1,c2.2,zS hk (by omega),e3];simp
 ·rintro⟨q,hq,ha,hb⟩;unfold jm at hb;rw[Bool.and_eq_true,Bool.or_eq_true,Bool.and_eq_true]at hb;obtain⟨b1,b2|⟨b2,b3⟩⟩:=hb
  ·obtain⟨m1,m2⟩:=tK (H:=[bG]) ha (by rw[tL,b1,b2];rfl);exact⟨_,List.mem_append_left _ m1,m2,hq⟩
  ·obtain⟨m1,m2⟩:=tK (H:=[bx]) ha (by rw[pO];unfold bU;rw[b1,b2];rfl);rw[zS hk (by omega)]at b3;exact⟨_,List.mem_append_right _ ((hR _).mpr ⟨m1,by show((k+1:Nat):Int)≤q;omega,b3⟩),m2,hq⟩
theorem AZ{L:af}(hp:aR L=true):∀j k,k+j=L.length→∃pre R,(dQ L).reverse=pre++(bN L [bx] k).reverse∧dZ L pre=(eQ L++R,R)∧xL L k R
 |0,k,h=>by
  refine⟨[],[],?_,by show(eQ L,[])=_;rw[List.append_nil],fun s=>⟨fun hs=>(by cases hs),fun hs=>?_⟩⟩
  ·rw[show k=L.length by omega];rfl
  ·obtain⟨_,h2,_,_⟩:=(j5 L [bx] s L.length).mp hs.1;have:=hs.2.1;omega
 |j+1,k,h=>by
  obtain⟨pre,R,h1,h2,h3⟩:=AZ hp j (k+1) (by omega);cases hb:ie L [bx] (k:Int)
  ·refine⟨pre,R,?_,h2,fun s=>(h3 s).trans ⟨fun ⟨e1,e2,e3⟩=>⟨e1,by omega,e3⟩,fun ⟨e1,e2,e3⟩=>⟨e1,?_,e3⟩⟩⟩
   ·rw[h1];show _=pre++(bN L [bx] k).reverse;have:bN L [bx] (k+1)=bN L [bx] k:=by show bN L [bx] k++(if ie L [bx] (k:Int)then _ else _)=_;rw[hb];exact List.append_nil _
    rw[this]
   ·obtain⟨_,_,m3,_⟩:=(j5 L [bx] s L.length).mp e1;rcases Int.lt_or_eq_of_le e2 with hlt|heq
    ·omega
    ·rw[←heq,hb]at m3;cases m3
  ·have hdo:bU L (k:Int)=true:=by rw[←pO];exact hb
   have hk2:k+2≤L.length:=by
    obtain⟨o1,o2⟩:=eM hdo;have:=(wJ hp (k:Int) (by omega) (by omega) o1).1;omega
   have hsp:bN L [bx] (k+1)=bN L [bx] k++[((k:Int),ag L k)]:=by show bN L [bx] k++(if ie L [bx] (k:Int)then _ else _)=_;rw[hb];rfl
   have hmem:((k:Int),ag L k)∈dQ L:=(j5 L [bx] _ L.length).mpr ⟨by simp,by simp;omega,hb,rfl⟩;have hfl:=DR hp hk2 hdo h3;have hpre:(dQ L).reverse=(pre++[((k:Int),ag L k)])++(bN L [bx] k).reverse:=by rw[h1,hsp,List.reverse_append,List.append_assoc];rfl
   have hks:=sR L pre ((k:Int),ag L k);rw[h2]at hks;simp only at hks;rw[hfl]at hks;cases hf:fG L k
   ·rw[hf]at hks;refine⟨_,R,hpre,hks,fun s=>(h3 s).trans ⟨fun ⟨e1,e2,e3⟩=>⟨e1,by omega,e3⟩,fun ⟨e1,e2,e3⟩=>⟨e1,?_,e3⟩⟩⟩;rcases Int.lt_or_eq_of_le e2 with hlt|heq
    ·omega
    ·rw[←heq]at e3;rw[Int.toNat_natCast,hf]at e3;cases e3
   ·rw[hf,if_pos rfl]at hks;refine⟨_,R++[((k:Int),ag L k)],hpre,by rw[hks,List.append_assoc],fun s=>?_⟩;rw[List.mem_append,List.mem_singleton,h3 s];constructor
    ·rintro(⟨e1,e2,e3⟩|rfl)
     ·exact⟨e1,by omega,e3⟩
     ·exact⟨hmem,Int.le_refl _,by rw[Int.toNat_natCast];exact hf⟩
    ·rintro⟨e1,e2,e3⟩;rcases Int.lt_or_eq_of_le e2 with hlt|heq
     ·exact Or.inl ⟨e1,by omega,e3⟩
     ·right;obtain⟨_,_,_,m4⟩:=(j5 L [bx] s L.length).mp e1;exact Prod.ext heq.symm (by rw[m4,←heq])
theorem A1{L:af}(hp:aR L=true)(s:Int × Int):s∈dy L↔(s∈dQ L∧fG L s.1.toNat=true):=by
 obtain⟨pre,R,h1,h2,h3⟩:=AZ hp L.length 0 (by omega);rw[show(bN L [bx] 0).reverse=[]from rfl,List.append_nil]at h1;unfold dy;rw[h1,h2,List.mem_reverse,h3 s];constructor
 ·rintro⟨e1,_,e3⟩;exact⟨e1,e3⟩
 ·rintro⟨e1,e3⟩;obtain⟨m1,_⟩:=(j5 L [bx] s L.length).mp e1;exact⟨e1,by simpa using m1,e3⟩
end Go.Proofs.YtdojfommmpnbgaaGreatDoor
