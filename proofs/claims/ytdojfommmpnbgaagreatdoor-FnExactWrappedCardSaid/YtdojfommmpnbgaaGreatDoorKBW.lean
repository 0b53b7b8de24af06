import Derived.Test.YtdojfommmpnbgaaGreatDoorKBV
namespace Go.Proofs.YtdojfommmpnbgaaGreatDoor
open Go.RowKit
theorem BI:∀k u:Nat,u<10^(k+1)→Lib.nDigits u≤k+1
 |0,u,h=>by rw[Lib.nDigits_small (by simpa using h)];omega
 |k+1,u,h=>by
  by_cases h1:u<10
  ·rw[Lib.nDigits_small h1];omega
  ·rw[Lib.nDigits_big h1];have:=BI k (u/10) (by rw[Nat.pow_succ]at h;omega);omega
theorem N0(n:Nat)(h:n<10000000):Gs (vN n):=by
 have hl:=BI 6 n (by simpa using h);have hz:(vN n).size=Lib.nDigits n+1:=by
  show(118::Lib.decDigits n).toArray.size=_;rw[List.size_toArray,List.length_cons,Lib.decDigits_length]
 have h0:aI (vN n) 0=118:=by
  rw[fP (by omega)];rfl
 have hd:∀j,1≤j→j<(vN n).size→ir (aI (vN n) j)=true:=fun j h1 h2=>by
  obtain⟨k,rfl⟩:∃k,j=k+1:=⟨j-1,by omega⟩;have hk:k<(Lib.decDigits n).length:=by rw[Lib.decDigits_length];omega
  obtain⟨x,hx⟩:∃x,x=(Lib.decDigits n)[k]:=⟨_,rfl⟩;have hb:aI (vN n) (k+1)=(x.toNat:Int):=by
   rw[fP h2,hx];rfl
  have hm:x∈Lib.decDigits n:=by rw[hx];exact List.getElem_mem hk
  rw[Lib.decDigits_eq]at hm;obtain⟨t,_,ht⟩:=List.mem_map.mp hm;have hv:(x.toNat:Int)=48+((n/10^(Lib.nDigits n-1-t)%10:Nat):Int):=by
   rw[←ht];show((UInt8.ofNat (48+n/10^(Lib.nDigits n-1-t)%10)).toNat:Int)=_;rw[UInt8.toNat_ofNat'];omega
  rw[hb,hv];unfold ir bI;rw[Bool.or_eq_true];right;rw[Bool.and_eq_true,decide_eq_true_eq,decide_eq_true_eq];omega
 have hn:bt (vN n)=true:=by
  unfold bt;rw[h0,hz,Bool.and_eq_true,Bool.and_eq_true,Bool.and_eq_true];refine⟨⟨⟨decide_eq_true (by omega),decide_eq_true (by omega)⟩,rfl⟩,?_⟩;rw[uh];intro j _ hj;by_cases hj0:j=0
  ·rw[hj0,h0];rfl
  ·exact hd j (by omega) (by omega)
 refine⟨?_,by unfold maxLen;omega⟩;unfold bT bn;rw[hn];rfl
theorem zW(X:af):∀k n,n+k*(X.length+1)<10000000→∀s∈bL X k n,Gs s
 |0,_,_,s,h=>by cases h
 |k+1,n,hn,s,h=>by
  obtain⟨f0,f1,_,_⟩:=qC X n;rw[Nat.succ_mul]at hn;rcases List.mem_cons.mp h with rfl|h
  ·exact N0 _ (by omega)
  ·exact zW X k _ (by omega) s h
theorem zE(L:af)(hL:L.length≤2000)(d:Int):bB (ji L d)∧Gs (ji L d):=by
 refine⟨EY L d,?_⟩;unfold ji;cases h:(bL (bJ L) 2001 0)[aX (aL L) d]? with
 |none=>exact pr _ (by simp[lY])
 |some s =>
  have hx:=wm L;have h2:2001*((bJ L).length+1)≤2001*2001:=Nat.mul_le_mul_left _ (by omega);exact zW _ _ _ (by omega) _ (List.mem_of_getElem? h)
end Go.Proofs.YtdojfommmpnbgaaGreatDoor
namespace Go.Proofs.YtdojfommmpnbgaaGreatDoor
open Go.RowKit Go.Shelf Go.Proofs.Tryz
structure ny (w:World) (a ad:Option Addr) (gf off:Nat) (L:af):Prop where
 arg:aD w a L
 num:kB w ad (aL L)
 frs:Tx w gf off (bL (bJ L) (aL L).length 0)
theorem ny.call{w w':World}{a ad:Option Addr}{gf off:Nat}{L:af}(h:ny w a ad gf off L)(hb:ai w w'):ny w' a ad gf off L:=⟨h.arg.call hb,h.num.call hb,h.frs.call hb⟩
def ue(a ad:Option Addr)(cap cd gf off cf:Nat)(L:af)(n:Nat):Prop:=∀(m:Nat) (f t:Int) (W:World),ny W a ad gf off L→bd L m f t→0≤t→t≤(L.length:Int)→(t-f).toNat≤n →
 ah 23 #[.agg #[.slice a L.length cap,.slice ad (aL L).length cd,.slice (some ⟨gf,off,none⟩) (aL L).length cf],.int .i64 f,.int .i64 t] W fun e w'=>∃g n' cp,e=.returned (.slice (some ⟨g,0,none⟩) n' cp)∧aG w' W.heap.size g n' cp ((ar L m f).flatMap (wV L 0))∧ai W w'
theorem qa{w:World}{a:Option Addr}{L:af}(h:aD w a L)(hs:bQ L=true):∀s∈L,Gs s:=fun s hm=>by
 obtain⟨i,hi,rfl⟩:=List.getElem_of_mem hm;obtain⟨_,_,_,_,_,h6⟩:=h i hi;unfold bQ at hs;exact⟨List.all_eq_true.mp hs _ hm,h6⟩
structure iG (w:World) (v0 v1 v2:Value) (x:World):Prop where
 c0:x.cell? ⟨w.heap.size,0,none⟩=some v0
 c1:x.cell? ⟨w.heap.size,1,none⟩=some v1
 c2:x.cell? ⟨w.heap.size,2,none⟩=some v2
 lt:w.heap.size<x.heap.size
 bel:ai w x
theorem iG.call{w x y:World}{v0 v1 v2:Value}(h:iG w v0 v1 v2 x)(hb:ai x y):iG w v0 v1 v2 y :=
 ⟨(hb.cell (p:=⟨w.heap.size,0,none⟩) h.lt).trans h.c0,(hb.cell (p:=⟨w.heap.size,1,none⟩) h.lt).trans h.c1,(hb.cell (p:=⟨w.heap.size,2,none⟩) h.lt).trans h.c2,Nat.lt_of_lt_of_le h.lt hb.size,aw h.bel hb⟩
theorem iG.drew{w x:World}{v0 v1 v2:Value}(h:iG w v0 v1 v2 x):iG w v0 v1 v2 x.drew:=⟨h.c0,h.c1,h.c2,h.lt,h.bel.drew⟩
theorem iG.all{w x:World}{v0 v1 v2:Value}(h:iG w v0 v1 v2 x):x.cell? ⟨w.heap.size,0,none⟩=some v0∧x.cell? ⟨w.heap.size,1,none⟩=some v1∧x.cell? ⟨w.heap.size,2,none⟩=some v2∧w.heap.size<x.heap.size∧ai w x:=⟨h.c0,h.c1,h.c2,h.lt,h.bel⟩
theorem Mq{w:World}{a b c d e f:Value}{A B C D E F:af}(ha:Sl w a A)(hb:Sl w b B)(hc:Sl w c C)(hd:Sl w d D)(he:Sl w e E)(hf:Sl w f F):∀i (_:i<[A,B,C,D,E,F].length) (h':i<[a,b,c,d,e,f].length),Sl w [a,b,c,d,e,f][i] [A,B,C,D,E,F][i]:=fun i _ h'=>by
 match i,h' with
 |0,_=>exact ha
 |1,_=>exact hb
 |2,_=>exact hc
 |3,_=>exact hd
 |4,_=>exact he
 |5,_=>exact hf
section
variable {L:af} {d:Int}
theorem nh(hp:aR L=true)(hG:∀s∈L,Gs s)(m:Nat)(i:Int)(h0:0≤ag L i)(hk:m=0∨Kk L i):cS (wV L m i)∧(wV L m i).length≤64*(ag L i-i).toNat∧∀s∈wV L m i,Gs s:=by
 have hL:=gy hp;have:=cZ h0;exact oD hp hG (fun _ h=>kn h) (zE L hL) _ m i (by omega) h0 hk
theorem Dz(hp:aR L=true)(hG:∀s∈L,Gs s)(i:Int)(h0:0≤ag L i)(hk:Kk L i):MO (L.length+10) false (wV L 0 i) (wV L 1 i):=by
 have hL:=gy hp;have:=cZ h0;exact rK (fun _ h=>kn h) hp hG (zE L hL) (L.length+2) i false (by omega) h0 hk
theorem su(hp:aR L=true)(hG:∀s∈L,Gs s)(hd:cr L d=true):∃k e,bd L k (d+2) e∧0≤e∧e<(L.length:Int)∧0≤d∧d+2≤e∧ag L d=e+1∧wV L 0 d=jL 0 (ji L d) ((ar L k (d+2)).flatMap (wV L 1))∧((ar L k (d+2)).flatMap (wV L 0)).length≤128000∧(∀s∈(ar L k (d+2)).flatMap (wV L 0),Gs s)∧((ar L k (d+2)).flatMap (wV L 1)).length≤128000∧ke false ((ar L k (d+2)).flatMap (wV L 0)) ((ar L k (d+2)).flatMap (wV L 1)):=by
 have hL:=gy hp;have hdo:=kn hd;obtain⟨o1,o2⟩:=eM hdo;have hv:aH L d:=Or.inr (mg hp (mA o2 (by decide)));obtain⟨k,e,q1d,q2,q3⟩:=hv.OK o1 o2;have hse:=dH q2;obtain⟨q1,hdl⟩:=eK k _ q1d;have hce:=eX k _ q1 hse.1;have hlt:=jz k _ q1 hse.1;have hcI:=iv k _ q1;have ho:=bF o1;have hpl:=ef q1 hse.1 (by omega) (bP q2);obtain⟨s1,s2,s3⟩:=lg (wV L 0) k (d+2) hcI hse.1 fun p hpm=>nh hp hG 0 p (by have:=(hlt p hpm).2.2.1.ends;omega) (Or.inl rfl)
 obtain⟨t1,t2,t3⟩:=lg (wV L 1) k (d+2) hcI hse.1 fun p hpm=>nh hp hG 1 p (by have:=(hlt p hpm).2.2.1.ends;omega) (Or.inr (mH (hlt p hpm).2.2.1))
 refine⟨k,e,hcI,hse.1,hse.2,ho.1,by omega,q3,?_,by omega,s3,by omega,?_⟩
 ·unfold wV;rw[pQ o1 hd,hpl];congr 1;refine oU _ _ _ fun p hpm=>?_
  obtain⟨d1,d2,d3,d4⟩:=hlt p hpm;exact(pR hp (fun _ h=>kn h) (L.length+1) 1 p (by omega) (by have:=d3.ends;omega) (Or.inr (mH d3))).symm
 ·refine AD (n:=L.length+10) (M:=fun _ X Y=>MO (L.length+10) false X Y) (fun _ _ _ h=>h) k _ _ (vx (wV L 0) (wV L 1) k (d+2) hcI hse.1 fun p hpm=>?_);have h0:0≤ag L p:=by have:=(hlt p hpm).2.2.1.ends;omega
  exact⟨(nh hp hG 0 p h0 (Or.inl rfl)).1,Dz hp hG p h0 (mH (hlt p hpm).2.2.1)⟩
end
structure rW (w:World) (v0 v1 v2:Value) (d q:Nat) (X U:af) (b0 b1 b2 b3 b4 b5 b6 b7 b8 b9 b10:Bool) (x7 x9 x10 x11 x12 x13 x14 x15 x16 x17 x18:Value) (y:World):Prop where
 hh:iG w v0 v1 v2 y
 f0:b0=true→x9=.agg #[v0,v1,v2]
 f1:b1=true→x10=.int .i64 d
 f2:b2=true→x11=.int .i64 ((d:Int)+2)
 f3:b3=true→x12=.pointer (some ⟨w.heap.size,0,none⟩)
 f4:b4=true→x13=v0
 f5:b5=true→x14=.int .i64 d
 f6:b6=true→x15=.int .i64 ((q:Int)+1)
 f7:b7=true→x16=.int .i64 q
 f8:b8=true→∃g n c,x17=.slice (some ⟨g,0,none⟩) n c∧aG y w.heap.size g n c X
 f9:b9=true→∃g n c,x18=.slice (some ⟨g,0,none⟩) n c∧aG y w.heap.size g n c U
 f10:b10=true→x7=x18
 o10:b10=true→b9=true
theorem rW.grow{w y y':World}{v0 v1 v2:Value}{d q:Nat}{X U:af}{b0 b1 b2 b3 b4 b5 b6 b7 b8 b9 b10:Bool}{x7 x9 x10 x11 x12 x13 x14 x15 x16 x17 x18:Value}(h:rW w v0 v1 v2 d q X U b0 b1 b2 b3 b4 b5 b6 b7 b8 b9 b10 x7 x9 x10 x11 x12 x13 x14 x15 x16 x17 x18 y)(hb:ai y y'):rW w v0 v1 v2 d q X U b0 b1 b2 b3 b4 b5 b6 b7 b8 b9 b10 x7 x9 x10 x11 x12 x13 x14 x15 x16 x17 x18 y' :=
 { h with hh:=h.hh.call hb,f8:=fun e=>by { obtain⟨g,n,c,k1,k2⟩:=h.f8 e;exact⟨g,n,c,k1,bO k2 hb⟩ },f9:=fun e=>by { obtain⟨g,n,c,k1,k2⟩:=h.f9 e;exact⟨g,n,c,k1,bO k2 hb⟩ } }
def DL(w:World)(v0 v1 v2:Value)(d q:Nat)(f:ByteArray)(X U:af)(l:Array Bool)(A:Act)(y:World):Prop:=∃b0 b1 b2 b3 b4 b5 b6 b7 b8 b9 b10 x7 x9 x10 x11 x12 x13 x14 x15 x16 x17 x18,l=#[b0,b1,b2,b3,b4,b5,b6,b7,b8,b9,b10]∧A={ tmps:=#[.agg #[v0,v1,v2],.int .i64 d,.string f,.pointer (some ⟨w.heap.size,0,none⟩),undef,undef,.slice none 0 0,x7,undef,x9,x10,x11,x12,x13,x14,x15,x16,x17,x18,undef,undef,undef,undef,undef,undef,undef,undef,undef,undef,undef,undef,undef,undef,undef],defers:=[] }∧rW w v0 v1 v2 d q X U b0 b1 b2 b3 b4 b5 b6 b7 b8 b9 b10 x7 x9 x10 x11 x12 x13 x14 x15 x16 x17 x18 y
section
variable {P:Program} {ops:Array Oper} {md:Region.Mode}
theorem CI{l:Array Bool}(hd:∀(i:Nat) (h:i<ops.size),∀x∈(ops[i]'h).after,x.on<i)(hr:Region.ready md ops l=[]):∀i,i<ops.size→l.getD i true=true:=by
 intro i;induction i using Nat.strongRecOn with
 |_ i ih =>
  intro hi;cases hc:l.getD i true with
  |true=>rfl
  |false =>
   exfalso;have ho:ops[i]?=some ops[i]:=Array.getElem?_eq_getElem hi;have hm:i∈Region.ready md ops l:=mem_ready.2 ⟨hc,ops[i],ho,fun x hx _=>by
    have hlt:=hd i hi x hx;have h1:=ih x.on hlt (by omega);by_cases hs:x.on<l.size
    ·rw[Array.getD_eq_getD_getElem?,Array.getElem?_eq_getElem hs]at h1 ⊢;exact h1
    ·exfalso;have hi2:¬i<l.size:=by omega
     rw[Array.getD_eq_getD_getElem?,Array.getElem?_eq_none (by omega)]at hc;cases hc⟩
   rw[hr]at hm;cases hm
end
attribute [local go_sem] Oper.semAt_some
set_option maxRecDepth 100000 in
set_option maxHeartbeats 4000000 in
theorem Oz{a ad:Option Addr}{cap cd gf off cf:Nat}{L:af}{n:Nat}(hS:ue a ad cap cd gf off cf L n)(hp:aR L=true)(hsg:bQ L=true)(d:Nat)(hd:cr L (d:Int)=true)(hn:(ag L (d:Int)-d).toNat≤n+1)(w:World)(h:ny w a ad gf off L) :
  ah 43 #[.agg #[.slice a L.length cap,.slice ad (aL L).length cd,.slice (some ⟨gf,off,none⟩) (aL L).length cf],.int .i64 d,.string (ji L (d:Int))] w fun e w'=>∃g n' cp,e=.returned (.slice (some ⟨g,0,none⟩) n' cp)∧aG w' w.heap.size g n' cp (wV L 0 (d:Int))∧ai w w':=by
 have hL:=gy hp;have hG:=qa h.arg hsg;obtain⟨k,e,c1,c2,c3,c4,c5,c6,c7,c8,c9,c10,c11⟩:=su hp hG hd;obtain⟨X,hX⟩:∃X,(ar L k ((d:Int)+2)).flatMap (wV L 0)=X:=⟨_,rfl⟩;obtain⟨U,hU⟩:∃U,(ar L k ((d:Int)+2)).flatMap (wV L 1)=U:=⟨_,rfl⟩;obtain⟨f,hf⟩:∃f,ji L (d:Int)=f:=⟨_,rfl⟩;obtain⟨q,rfl⟩:∃q:Nat,e=(q:Int):=⟨e.toNat,by omega⟩;rw[hX]at c8 c9 c11;rw[hU]at c7 c10 c11;rw[hf]at c7 ⊢;have HR:Hid (wV L 0 (d:Int)=[[al,bx,al,fV,f,al,eJ,al,bG,al,aq],U,[aq,aq,aq],[al,cF,al,cA,f,gZ,aq,al,bx,aq],pC f [al,dY,f,bV,aq],[aq,aq]].flatten):=by
  show wV L 0 (d:Int)=_;rw[c7,Oq]
 have HI:Hid (∀W,ai w W→ah 44 #[.slice a L.length cap,.int .i64 d] W (aA (.int .i64 ((q:Int)+1)) W)):=fun W hW=>by
  rw[←c6];exact nO a cap L (d:Int) W (h.arg.call hW) (by omega) hsg
 have HS:Hid (∀W,ai w W→ah 23 #[.agg #[.slice a L.length cap,.slice ad (aL L).length cd,.slice (some ⟨gf,off,none⟩) (aL L).length cf],.int .i64 ((d:Int)+2),.int .i64 q] W fun e w'=>∃g n' cp,e=.returned (.slice (some ⟨g,0,none⟩) n' cp)∧aG w' W.heap.size g n' cp X∧ai W w'):=fun W hW=>by
  have:=hS k ((d:Int)+2) (q:Int) W (h.call hW) c1 (by omega) (by omega) (by omega);rwa [hX]at this
 obtain⟨no,hno⟩:=c11;have HO:Hid (∀(g n' cp B:Nat) (W:World),aG W B g n' cp X→ah 75 #[.slice (some ⟨g,0,none⟩) n' cp,.bool false] W fun e w'=>∃g' n' cp,e=.returned (.slice (some ⟨g',0,none⟩) n' cp)∧aG w' W.heap.size g' n' cp U∧ai W w'):=fun g n' cp B W hO=>by
  have hn':n'=X.length:=by have:=hO.1;simpa using this.symm
  obtain⟨hr,_⟩:=aG.row hO;have hcp:X.length≤cp∧cp≤maxLen:=by
   rcases hO.2 with⟨hv,_⟩|⟨g9,c9',cur,hv,_,_,h1,h2,_⟩
   ·cases hv
   ·cases hv;exact⟨by omega,h2⟩
  subst hn';have hml:maxLen≤9223372036854775807:=by decide +kernel
  exact J9 no false X U g 0 cp W hno ⟨hr.1,fun i hi=>by rw[Nat.zero_add];exact(hr.2 i hi).1⟩ hcp.1 (by omega) c9 (by omega) (by omega)
 have hT0:iG w (.slice a L.length cap) (.slice ad (aL L).length cd) (.slice (some ⟨gf,off,none⟩) (aL L).length cf) (w.alloc (.cells #[.slice a L.length cap,.slice ad (aL L).length cd,.slice (some ⟨gf,off,none⟩) (aL L).length cf] 41)) :=
  ⟨by simp[go_sem],by simp[go_sem],by simp[go_sem],by simp,ay (Below.refl _ _) _⟩
 obtain⟨w0,hw0⟩:∃w0,w0=w.alloc (.cells #[.slice a L.length cap,.slice ad (aL L).length cd,.slice (some ⟨gf,off,none⟩) (aL L).length cf] 41):=⟨_,rfl⟩;rw[←hw0]at hT0;have hd2:(d:Int)+2≤9223372036854775807:=by omega
 have hw2:IntKind.i64.wrap ((d:Int)+2)=(d:Int)+2:=by rw[IntKind.wrap_i64];omega
 have hw3:IntKind.i64.wrap ((q:Int)+1-1)=(q:Int):=by rw[IntKind.wrap_i64];omega
 have hw4:IntKind.i64.wrap (q:Int)=(q:Int):=by rw[IntKind.wrap_i64];omega
 obtain⟨nX,hnX⟩:∃nX,(aL L).length=nX:=⟨_,rfl⟩;obtain⟨nL,hnL⟩:∃nL,L.length=nL:=⟨_,rfl⟩;rw[hnX,hnL]at HS hT0 hw0 ⊢;rw[hnL]at HI;clear hX hU hf hno c1 c7 c8 c9 hS h hG hn hd hnX hnL;go_enter func43,ntmps43;go_upto_region 1 with fail;rw[←hw0];clear hw0;refine wp_region_any (by kernel_rfl) ?_;refine tY (DL w (.slice a nL cap) (.slice ad nX cd) (.slice (some ⟨gf,off,none⟩) nX cf) d q f X U) ?_ ?_ _ _ _ _ ?_ ?_
 ·rintro l A y i ⟨b0,b1,b2,b3,b4,b5,b6,b7,b8,b9,b10,x7,x9,x10,x11,x12,x13,x14,x15,x16,x17,x18,rfl,rfl,hF⟩ hi;obtain⟨h1,o,ho,h2⟩:=mem_ready.1 hi;have hi11:i<11:=by
   rcases Nat.lt_or_ge i 11 with h'|h'
   ·exact h'
   ·rw[Array.getElem?_eq_none (by simpa using h')]at ho;cases ho
  clear hi;obtain rfl|rfl|rfl|rfl|rfl|rfl|rfl|rfl|rfl|rfl|rfl:i=0∨i=1∨i=2∨i=3∨i=4∨i=5∨i=6∨i=7∨i=8∨i=9∨i=10:=by omega
  all_goals (simp at ho;subst ho;simp[Region.binds]at h1 h2)
  all_goals refine wpOp_step rfl (fun K hK=>?_)
  all_goals have hc0:=hF.hh.c0
  all_goals have hc1:=hF.hh.c1
  all_goals have hc2:=hF.hh.c2
  ·go_simp;refine hK _ _ ⟨true,b1,b2,b3,b4,b5,b6,b7,b8,b9,b10,_,_,_,_,_,_,_,_,_,_,_,rfl,rfl,{ hF with f0:=fun _=>rfl }⟩
  ·go_simp;refine hK _ _ ⟨b0,true,b2,b3,b4,b5,b6,b7,b8,b9,b10,_,_,_,_,_,_,_,_,_,_,_,rfl,rfl,{ hF with f1:=fun _=>rfl }⟩
  ·have e:=hF.f1 h2;subst e;go_simp;refine hK _ _ ⟨b0,b1,true,b3,b4,b5,b6,b7,b8,b9,b10,_,_,_,_,_,_,_,_,_,_,_,rfl,rfl,{ hF with f2:=fun _=>rfl }⟩
  ·go_simp;refine hK _ _ ⟨b0,b1,b2,true,b4,b5,b6,b7,b8,b9,b10,_,_,_,_,_,_,_,_,_,_,_,rfl,rfl,{ hF with f3:=fun _=>rfl }⟩
  ·have e:=hF.f3 h2;subst e;go_simp;refine hK _ _ ⟨b0,b1,b2,b3,true,b5,b6,b7,b8,b9,b10,_,_,_,_,_,_,_,_,_,_,_,rfl,rfl,{ hF with f4:=fun _=>rfl }⟩
  ·go_simp;refine hK _ _ ⟨b0,b1,b2,b3,b4,true,b6,b7,b8,b9,b10,_,_,_,_,_,_,_,_,_,_,_,rfl,rfl,{ hF with f5:=fun _=>rfl }⟩
  ·have e4:=hF.f4 h2.1;have e5:=hF.f5 h2.2;subst e4 e5;go_simp;refine(HI.out _ hF.hh.bel).mono ?_;rintro e y1 ⟨rfl,hb⟩;refine hK _ _ ⟨b0,b1,b2,b3,b4,b5,true,b7,b8,b9,b10,_,_,_,_,_,_,_,_,_,_,_,rfl,rfl,{ hF.grow hb with f6:=fun _=>rfl }⟩
  ·have e:=hF.f6 h2;subst e;go_simp;refine hK _ _ ⟨b0,b1,b2,b3,b4,b5,b6,true,b8,b9,b10,_,_,_,_,_,_,_,_,_,_,_,rfl,rfl,{ hF with f7:=fun _=>(by first|rfl|rw[hw4]) }⟩
  ·have e0:b0=true:=by clear hK hF HR HI HS HO;simp_all
   have e2:b2=true:=by clear hK hF HR HI HS HO;simp_all
   have e7:b7=true:=by clear hK hF HR HI HS HO;simp_all
   have k0:=hF.f0 e0;have k2:=hF.f2 e2;have k7:=hF.f7 e7;subst k0 k2 k7;go_simp;refine(HS.out _ hF.hh.bel).mono ?_;rintro e y1 ⟨g,n',c',rfl,hO,hb⟩;refine hK _ _ ⟨b0,b1,b2,b3,b4,b5,b6,b7,true,b9,b10,_,_,_,_,_,_,_,_,_,_,_,rfl,rfl,{ hF.grow hb with f8:=fun _=>⟨g,n',c',rfl,dW hO hF.hh.bel.size⟩ }⟩
  ·have e8:b8=true:=by clear hK hF HR HI HS HO;simp_all
   obtain⟨g,n',c',rfl,hO⟩:=hF.f8 e8;go_simp;refine(HO.out g n' c' _ _ hO).mono ?_;rintro e y1 ⟨g9,n9,c9,rfl,hO9,hb⟩;refine hK _ _ ⟨b0,b1,b2,b3,b4,b5,b6,b7,b8,true,b10,_,_,_,_,_,_,_,_,_,_,_,rfl,rfl,{ hF.grow hb with f9:=fun _=>⟨g9,n9,c9,rfl,dW hO9 hF.hh.bel.size⟩,f10:=fun hc=>absurd (hF.o10 hc) (by rw[h1];decide),o10:=fun _=>rfl }⟩
  ·have e9:b9=true:=by clear hK hF HR HI HS HO;simp_all
   go_simp;refine hK _ _ ⟨b0,b1,b2,b3,b4,b5,b6,b7,b8,b9,true,_,_,_,_,_,_,_,_,_,_,_,rfl,rfl,{ hF with f10:=fun _=>rfl,o10:=fun _=>e9 }⟩
 ·rintro l A y ⟨b0,b1,b2,b3,b4,b5,b6,b7,b8,b9,b10,x7,x9,x10,x11,x12,x13,x14,x15,x16,x17,x18,rfl,rfl,hF⟩ hr;clear HI HS HO hT0;have ht:=CI (by decide) hr;obtain rfl:b0=true:=ht 0 (by decide);obtain rfl:b1=true:=ht 1 (by decide);obtain rfl:b2=true:=ht 2 (by decide);obtain rfl:b3=true:=ht 3 (by decide);obtain rfl:b4=true:=ht 4 (by decide);obtain rfl:b5=true:=ht 5 (by decide);obtain rfl:b6=true:=ht 6 (by decide);obtain rfl:b7=true:=ht 7 (by decide);obtain rfl:b8=true:=ht 8 (by decide);obtain rfl:b9=true:=ht 9 (by decide);obtain rfl:b10=true:=ht 10 (by decide);clear ht hr;obtain⟨g9,n9,c9,rfl,hO9⟩:=hF.f9 rfl;have e7:=hF.f10 rfl;subst e7;have hS9:=aG.sl hO9;have hB:=hF.hh.bel;clear hF hO9;go_wp2_with fail;have hbA:=ay (Below.refl y.heap.size y) (.cells #[.string ⟨#[40]⟩,.string ⟨#[103,101,116]⟩,.string f,.string ⟨#[49]⟩,.string ⟨#[41]⟩] 9);have hA:=dM y [al,dY,f,bV,aq] 9;refine(DF _ 5 5 _).mono ?_;rintro e w1 ⟨gA,rfl,hWA,hgA,hb1⟩;have hA1:=hA.call hb1;have hS91:=(hS9.call hbA).call hb1;have hB1:=aw (aw hB hbA) hb1;clear hA hS9 hB hb1 hbA;obtain⟨wa,hwa⟩:∃x,x=w1.alloc (.cells #[.string ⟨#[40]⟩,.string ⟨#[100,111]⟩,.string ⟨#[40]⟩,.string ⟨#[108,101,116]⟩,.string f,.string ⟨#[40]⟩,.string ⟨#[99,97,108,108]⟩,.string ⟨#[40]⟩,.string ⟨#[102,110]⟩,.string ⟨#[40]⟩,.string ⟨#[41]⟩] 9):=⟨_,rfl⟩;obtain⟨wb,hwb⟩:∃x,x=wa.alloc (.cells #[.string ⟨#[41]⟩,.string ⟨#[41]⟩,.string ⟨#[41]⟩] 9):=⟨_,rfl⟩;obtain⟨wc,hwc⟩:∃x,x=wb.alloc (.cells #[.string ⟨#[40]⟩,.string ⟨#[105,102]⟩,.string ⟨#[40]⟩,.string ⟨#[61]⟩,.string f,.string ⟨#[110,111,110,101]⟩,.string ⟨#[41]⟩,.string ⟨#[40]⟩,.string ⟨#[100,111]⟩,.string ⟨#[41]⟩] 9):=⟨_,rfl⟩;have ha1:Sl wa (.slice (some ⟨w1.heap.size,0,none⟩) 11 11) [al,bx,al,fV,f,al,eJ,al,bG,al,aq]:=by rw[hwa];exact dM w1 [al,bx,al,fV,f,al,eJ,al,bG,al,aq] 9
  have ha2:Sl wb (.slice (some ⟨w1.heap.size+1,0,none⟩) 3 3) [aq,aq,aq]:=by
   have h1:=dM wa [aq,aq,aq] 9;rw[hwb];rw[show wa.heap.size=w1.heap.size+1 from by rw[hwa,World.size_alloc]]at h1;exact h1
  have ha3:Sl wc (.slice (some ⟨w1.heap.size+1+1,0,none⟩) 10 10) [al,cF,al,cA,f,gZ,aq,al,bx,aq]:=by
   have h1:=dM wb [al,cF,al,cA,f,gZ,aq,al,bx,aq] 9;rw[hwc];rw[show wb.heap.size=w1.heap.size+1+1 from by rw[hwb,World.size_alloc,hwa,World.size_alloc]]at h1;exact h1
  have bwa:ai w1 wa:=by rw[hwa];exact ay (Below.refl _ _) _
  have bwb:ai wa wb:=by rw[hwb];exact ay (Below.refl _ _) _
  have bwc:ai wb wc:=by rw[hwc];exact ay (Below.refl _ _) _
  have hWc:=((hWA.call bwa).call bwb).call bwc;have hAc:=((hA1.call bwa).call bwb).call bwc;have hSc:=((hS91.call bwa).call bwb).call bwc;have ha1c:=(ha1.call bwb).call bwc;have ha2c:=ha2.call bwc;have hBc:=aw (aw (aw hB1 bwa) bwb) bwc;clear hA1 hS91 ha1 ha2 bwa bwb bwc hB1;go_wp2_with fail;rw[←hwa,←hwb,←hwc];refine(JL f gA _ wc [al,dY,f,bV,aq] hAc (by simp) hWc).mono ?_;rintro e w2 ⟨g3,n3,c3,rfl,hO3,hb3⟩;have hbB:=ay (Below.refl w2.heap.size w2) (.cells #[.string ⟨#[41]⟩,.string ⟨#[41]⟩] 9);have hS3:=(aG.sl hO3).call hbB
  have HC:=kH (w2.alloc (.cells #[.string ⟨#[41]⟩,.string ⟨#[41]⟩] 9)) [.slice (some ⟨w1.heap.size,0,none⟩) 11 11,.slice (some ⟨g9,0,none⟩) n9 c9,.slice (some ⟨w1.heap.size+1,0,none⟩) 3 3,.slice (some ⟨w1.heap.size+1+1,0,none⟩) 10 10,.slice (some ⟨g3,0,none⟩) n3 c3,.slice (some ⟨w2.heap.size,0,none⟩) 2 2]
   [[al,bx,al,fV,f,al,eJ,al,bG,al,aq],U,[aq,aq,aq],[al,cF,al,cA,f,gZ,aq,al,bx,aq],pC f [al,dY,f,bV,aq],[aq,aq]] rfl
   (Mq ((ha1c.call hb3).call hbB) ((hSc.call hb3).call hbB) ((ha2c.call hb3).call hbB) ((ha3.call hb3).call hbB) hS3 (dM w2 [aq,aq] 9)) (by simp) (fun _=>by simp) (by simp) (by simp[eB,pC,pD,n8];omega)
  rw[World.size_alloc,←HR.out]at HC;have hB3:ai w (w2.alloc (.cells #[.string ⟨#[41]⟩,.string ⟨#[41]⟩] 9)):=aw (aw hBc hb3) hbB;have hz3:=hB3.size;rw[World.size_alloc]at hz3;clear hb3 hbB hS3 hO3 hAc hWc hSc ha1c ha2c ha3 hBc hWA hwa hwb hwc;go_wp2_with fail;refine HC.mono ?_;rintro e w4 ⟨g4,n4,cp,rfl,hO,hb4⟩;go_wp2;go_ret;exact⟨g4,n4,cp,rfl,dW hO hz3,aw hB3 (hb4.mono (by simp))⟩
 ·exact⟨false,false,false,false,false,false,false,false,false,false,false,_,_,_,_,_,_,_,_,_,_,_,rfl,rfl,⟨hT0.drew,nofun,nofun,nofun,nofun,nofun,nofun,nofun,nofun,nofun,nofun,nofun,nofun⟩⟩
 ·decide
theorem od(w:World)(B:Nat)(h:B≤w.heap.size):aG (w.alloc (.cells #[] 9)) B w.heap.size 0 0 []:=World.ownsRow_made w #[] 0 h (Nat.zero_le _) rfl
theorem LL(w:World)(ty:TypeId){B g n c:Nat}{D S:af}{x:Value}(hO:aG w B g n c D)(hS:Sl w x S)(hl:D.length+S.length≤400000)(hB:B≤w.heap.size) :
  ∃g' c' w',(Builtin.append_ #[22,22] ty #[.slice (some ⟨g,0,none⟩) n c,x]).run prog w=.ok (.slice (some ⟨g',0,none⟩) (n+S.length) c') w'∧aG w' B g' (n+S.length) c' (D++S)∧Below B w w':=by
 obtain⟨i0,hi,hz0,hz1,hz2⟩:=info_parts Tryz.OJ;obtain⟨g1,o1,c1,rfl,hg1,_,hcl⟩:=hS;have hn:n=D.length:=by have:=hO.1;simpa using this.symm
 have hadd:∀j,(⟨g1,o1,none⟩:Addr).add j=⟨g1,o1+j,none⟩:=fun j=>by unfold Addr.add;split<;>simp_all
 have hnews:∀j u,(S.map Value.string)[j]?=some u→w.cell? ((⟨g1,o1,none⟩:Addr).add j)=some u:=fun j u hu=>by
  rw[hadd];rw[List.getElem?_map]at hu;cases hzj:S[j]? with
  |none=>rw[hzj]at hu;cases hu
  |some s =>
   rw[hzj]at hu;simp at hu;subst hu;obtain⟨hl,hs⟩:=List.getElem?_eq_some_iff.1 hzj;rw[←hs];exact hcl j hl
 have hone:∀u∈S.map Value.string,u.oneCell'=true:=fun u hu=>by
  obtain⟨s,_,rfl⟩:=List.mem_map.mp hu;rfl
 obtain⟨v',w',hr,hown,hgrow,hnil⟩:=run_append_own (P:=prog) w B 22 ty 9 i0 (.string ⟨#[]⟩) 1 16 Tryz.underlying22 hi hz0 hz1 hz2 rfl (by decide) _ _ _ hO ⟨g1,o1,none⟩ S.length c1 (S.map Value.string) (by rw[List.length_map];omega) hnews hone (by unfold maxLen;omega) (by omega) hB;have hB5:Below B w w':=(Below.refl B w).grown hgrow hB (fun k hk=>(World.ownsRow.lt hO k hk).1);rcases hown.2 with⟨hv,_⟩|⟨g5,c5,cur,hv,h1,h2,h3,h4,h5,h6⟩
 ·exfalso;have:=(hnil.1 hv).1;cases this
 ·subst hv;refine⟨g5,c5,w',hr,?_,hB5⟩;show w'.ownsRow B 9 1 _ _ ((D++S).map Value.string);rw[List.map_append];exact hown
theorem B5{o:Oper}{a:Act}{w:World}{K:Act→World→Prop}{Q:Exit→Act→World→Prop}(s x:Operand)(ho:o.op=.call { callee:=.builtin .append,args:=#[s,x],argTypes:=#[22,22] })
  {B g n c:Nat} {D S:af} {xv:Value} (hs:a.eval s=.slice (some ⟨g,0,none⟩) n c) (hx:a.eval x=xv) (hO:aG w B g n c D) (hS:Sl w xv S) (hl:D.length+S.length≤400000) (hB:B≤w.heap.size)
  (hK:∀g' c' w',aG w' B g' (n+S.length) c' (D++S)→Below B w w'→K (a.put o.dst (.slice (some ⟨g',0,none⟩) (n+S.length) c')) w'):Oper.wp prog o a w K Q:=by
 obtain⟨g',c',w',hr,h1,h2⟩:=LL w o.type hO hS hl hB;unfold Oper.wp;simp[execOp,ho,resolve,invoke,builtin,hs,hx,hr,Result.andThen];exact hK g' c' w' h1 h2
theorem jc(w:World){ops:Array Oper}{rest:List Oper}{o:Oper}{a:Act}{Q:Exit→Act→World→Prop}(hgd:o.guard=none)(s x:Operand)(ho:o.op=.call { callee:=.builtin .append,args:=#[s,x],argTypes:=#[22,22] })
  {B g n c:Nat} {D S:af} {xv:Value} (hs:a.eval s=.slice (some ⟨g,0,none⟩) n c) (hx:a.eval x=xv) (hO:aG w B g n c D) (hS:Sl w xv S) (hl:D.length+S.length≤400000) (hB:B≤w.heap.size)
  (h:∀g' c' w',aG w' B g' (n+S.length) c' (D++S)→Below B w w'→wpList prog ops Q rest (a.put o.dst (.slice (some ⟨g',0,none⟩) (n+S.length) c')) w'):wpList prog ops Q (o::rest) a w :=
 wpList_plain hgd fun _ hK'=>B5 s x ho hs hx hO hS hl hB fun g' c' w' h1 h2=>hK' _ _ (h g' c' w' h1 h2)
theorem iG.own{w x y:World}{v0 v1 v2:Value}(h:iG w v0 v1 v2 x)(hb:Below (w.heap.size+1) x y):iG w v0 v1 v2 y :=
 ⟨(hb.cell (p:=⟨w.heap.size,0,none⟩) (Nat.lt_succ_self _)).trans h.c0,(hb.cell (p:=⟨w.heap.size,1,none⟩) (Nat.lt_succ_self _)).trans h.c1,(hb.cell (p:=⟨w.heap.size,2,none⟩) (Nat.lt_succ_self _)).trans h.c2,Nat.lt_of_lt_of_le h.lt hb.size,h.bel.trans (hb.mono (Nat.le_succ _))⟩
section
variable {L:af} {D:Int→Bool} {W:Int→af} {p t:Int} {Z:af}
theorem Nd(h:Sy L D W p t Z):p≤t:=by
 obtain⟨n,h⟩:=h;cases n with
 |zero=>have:=h.1;omega
 |succ n =>
  rcases h with h|h
  ·have:=h.1;omega
  ·have:=h.1;omega
theorem Nf(h:Sy L D W p t Z)(hp:¬p<t):p=t∧Z=[]:=by
 obtain⟨n,h⟩:=h;cases n with
 |zero=>exact h
 |succ n =>
  rcases h with h|h
  ·exact h
  ·exact absurd h.1 hp
theorem Nh(h:Sy L D W p t Z)(hp:p<t)(hD:D p=true):∃Z',Z=W p++Z'∧Sy L D W (ag L p) t Z':=by
 obtain⟨n,h⟩:=h;cases n with
 |zero=>have:=h.1;omega
 |succ n =>
  rcases h with h|⟨_,⟨_,Z',h1,h2⟩|⟨h1,_⟩⟩
  ·have:=h.1;omega
  ·exact⟨Z',h1,n,h2⟩
  ·rw[hD]at h1;cases h1
theorem Ng(h:Sy L D W p t Z)(hp:p<t)(hD:D p=false):∃Z',Z=aa L p::Z'∧Sy L D W (p+1) t Z':=by
 obtain⟨n,h⟩:=h;cases n with
 |zero=>have:=h.1;omega
 |succ n =>
  rcases h with h|⟨_,⟨h1,_⟩|⟨_,Z',h1,h2⟩⟩
  ·have:=h.1;omega
  ·rw[hD]at h1;cases h1
  ·exact⟨Z',h1,n,h2⟩
end
theorem DS(L:af)(p:Int):((aL L).any fun y=>p==y)=cr L p:=by
 rw[Bool.eq_iff_iff,List.any_eq_true];constructor
 ·rintro⟨y,hy,he⟩;rw[beq_iff_eq]at he;subst he;obtain⟨s,hs,e⟩:=List.mem_map.mp hy;exact(mq L p).2 ⟨s,hs,e⟩
 ·intro h;exact⟨p,uK h,by simp⟩
theorem Na{L:af}(hp:aR L=true){m:Nat}{f t:Int}(hc:bd L m f t)(ht:0≤t):Sy L (cr L) (wV L 0) f t ((ar L m f).flatMap (wV L 0)):=by
 have hDo:∀i,cr L i=true→bU L i=true:=fun _ h=>kn h
 refine Dj hDo (fun n i _ hn h0=>?_) (L.length+2) m f hc ht fun k hk=>?_
 ·have hu:=cZ h0;unfold wV;rw[←Dt hp hDo n (L.length+2) 0 i hn h0 (Or.inl rfl),Nat.add_comm n,Dt hp hDo (L.length+2) n 0 i (by omega) h0 (Or.inl rfl)]
 ·obtain⟨d1,d2,d3,d4⟩:=fQ m _ hc ht k hk;have hu:=cZ d3;omega
structure rU (w:World) (v0 v1:Value) (gf off:Nat) (nf cf p k:Nat) (f:ByteArray) (g n c:Nat) (D S:af) (b0 b1 b2 b3 b4 b5 b6 b7 b8 b9 b10:Bool) (x7 x24 x25 x26 x27 x28 x29 x30 x31 x32 x33:Value) (y:World):Prop where
 hh:iG w v0 v1 (.slice (some ⟨gf,off,none⟩) nf cf) y
 fr:y.cell? ⟨gf,off+k,none⟩=some (.string f)
 own:b9=false→aG y (w.heap.size+1) g n c D
 f0:b0=true→x24=.slice (some ⟨g,0,none⟩) n c
 f1:b1=true→x25=.agg #[v0,v1,.slice (some ⟨gf,off,none⟩) nf cf]
 f2:b2=true→x26=.int .i64 p
 f3:b3=true→x27=.pointer (some ⟨w.heap.size,2,none⟩)
 f4:b4=true→x28=.slice (some ⟨gf,off,none⟩) nf cf
 f5:b5=true→x29=.int .i64 k
 f6:b6=true→x30=.pointer (some ⟨gf,off+k,none⟩)
 f7:b7=true→x31=.string f
 f8:b8=true→b9=false→Sl y x32 S
 f9:b9=true→∃g' c',x33=.slice (some ⟨g',0,none⟩) (n+S.length) c'∧aG y (w.heap.size+1) g' (n+S.length) c' (D++S)
 f10:b10=true→x7=x33
 o9:b9=true→b0=true
 o10:b10=true→b9=true
 o0:b10=false→x7=.slice (some ⟨g,0,none⟩) n c
theorem rU.grow{w y y':World}{v0 v1:Value}{gf off nf cf p k:Nat}{f:ByteArray}{g n c:Nat}{D S:af}{b0 b1 b2 b3 b4 b5 b6 b7 b8 b9 b10:Bool}{x7 x24 x25 x26 x27 x28 x29 x30 x31 x32 x33:Value}(h:rU w v0 v1 gf off nf cf p k f g n c D S b0 b1 b2 b3 b4 b5 b6 b7 b8 b9 b10 x7 x24 x25 x26 x27 x28 x29 x30 x31 x32 x33 y)(hg:gf<w.heap.size)(hb:ai y y'):rU w v0 v1 gf off nf cf p k f g n c D S b0 b1 b2 b3 b4 b5 b6 b7 b8 b9 b10 x7 x24 x25 x26 x27 x28 x29 x30 x31 x32 x33 y' :=
 { h with hh:=h.hh.call hb,fr:=(hb.cell (p:=⟨gf,off+k,none⟩) (Nat.lt_of_lt_of_le hg h.hh.bel.size)).trans h.fr,own:=fun e=>bO (h.own e) hb,f8:=fun e e'=>(h.f8 e e').call hb,f9:=fun e=>by { obtain⟨g',c',k1,k2⟩:=h.f9 e;exact⟨g',c',k1,bO k2 hb⟩ } }
end Go.Proofs.YtdojfommmpnbgaaGreatDoor
