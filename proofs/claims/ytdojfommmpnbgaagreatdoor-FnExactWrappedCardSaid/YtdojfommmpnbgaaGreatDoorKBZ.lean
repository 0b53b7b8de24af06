import Derived.Test.YtdojfommmpnbgaaGreatDoorKBX
import Derived.Test.YtdojfommmpnbgaaGreatDoorKBY
set_option maxHeartbeats 4000000
namespace Go.Proofs.YtdojfommmpnbgaaGreatDoor
open Go.RowKit Go.Shelf Go.Proofs.Tryz
theorem OE{L:af}{i:Int}(h:ae (aa L i) [40]=false):wV L 0 i=[aa L i]:=jo h
theorem OD{L:af}{i e:Int}{m:Nat}(hp:aR L=true)(ho:ae (aa L i) [40]=true)(hD:cr L i=false)(hc:bd L m (i+1) e)(he0:0≤e)(hel:e<(L.length:Int))(he:ae (aa L e) [41]=true):wV L 0 i=al::((ar L m (i+1)).flatMap (wV L 0)++[aq]):=by
 have hce:=bK m _ hc he0;unfold wV;rw[kV ho hD (Or.inl rfl) (Or.inl (by decide)),ly hc he0 (by omega) (bP he)];congr 2;refine oU _ _ _ fun p hpm=>?_
 obtain⟨d1,d2,d3,d4⟩:=fQ m _ hc he0 p hpm;have ho2:=bF ho;exact(pR hp (fun _ h=>kn h) (L.length+1) 0 p (by omega) d3 (Or.inl rfl)).symm
theorem oM{c:Nat}{w y y':World}(h:az c w y)(hb:Below w.heap.size y y'):az c w y' :=
 ⟨hb.os.trans h.1,hb.tape.trans h.2.1,hb.output.trans h.2.2.1,Nat.le_trans h.2.2.2.1 hb.size,fun k hk hc=>(hb.block k hk).trans (h.2.2.2.2 k hk hc)⟩
theorem Mb.R{c gn cn gf fc:Nat}{w y y':World}{a:Option Addr}{L X:af}{k k':Nat}(h:Mb c gn cn gf fc w a L X k)(hy:Mb c gn cn gf fc y a L X k')(hbu:az c w y)(hb:Below w.heap.size y y'):Mb c gn cn gf fc y' a L X k' :=
 h.put (oM hbu hb) (((hb.cell (p:=⟨c,0,none⟩) h.lt).trans hy.c0).trans h.c0.symm) ((hb.cell (p:=⟨c,1,none⟩) h.lt).trans hy.c1) ((hb.frozen (p:=⟨c,1,none⟩) h.lt).trans hy.fz)
def tZ(c gn cn gf fc:Nat)(a:Option Addr)(cap:Nat)(L X:af)(n:Nat):Prop:=∀(i:Int) (b:Bool) (W:World),Mb c gn cn gf fc W a L X (aX (aL L) i)→0≤ag L i→(ag L i-i).toNat≤n→(b=fI L (cr L) i∨Calm L i) →
 ah 17 #[.pointer (some ⟨c,0,none⟩),.slice a L.length cap,.slice (some ⟨gf,0,none⟩) L.length fc,.int .i64 i,.bool b] W fun e w'=>∃g n' cp,e=.returned (.slice (some ⟨g,0,none⟩) n' cp)∧aG w' W.heap.size g n' cp (wV L 0 i)∧az c W w'∧Mb c gn cn gf fc w' a L X (aX (aL L) (ag L i))
def ud(c gn cn gf fc:Nat)(a:Option Addr)(cap:Nat)(L X:af)(n:Nat):Prop:=∀(x i e:Int) (m:Nat) (b:Bool) (W:World),Mb c gn cn gf fc W a L X (aX (aL L) i)→0≤x→x+1<(L.length:Int)→bd L m i e→0≤e→e<(L.length:Int)→ae (aa L e) [41]=true→(∀k∈ar L m i,(dK L x k b=fI L (cr L) k∨Calm L k)∧(ag L k-k).toNat≤n) →
 ah 32 #[.pointer (some ⟨c,0,none⟩),.slice a L.length cap,.slice (some ⟨gf,0,none⟩) L.length fc,.int .i64 x,.int .i64 i,.bool b] W fun e' w'=>∃g n' cp,e'=.returned (.slice (some ⟨g,0,none⟩) n' cp)∧aG w' W.heap.size g n' cp ((ar L m i).flatMap (wV L 0))∧az c W w'∧Mb c gn cn gf fc w' a L X (aX (aL L) e)
set_option maxRecDepth 100000 in
set_option maxHeartbeats 4000000 in
theorem LK{c gn cn gf fc:Nat}{a:Option Addr}{cap:Nat}{L X:af}{n:Nat}(hp:aR L=true)(hGL:∀s∈L,Gs s)(ih:tZ c gn cn gf fc a cap L X n):ud c gn cn gf fc a cap L X n:=by
 intro x i e m b w hM hx0 hx1 hc he0 hel he hks;have hL:=gy hp;have hce:=bK m _ hc he0;obtain⟨x,rfl⟩:∃k:Nat,x=(k:Int):=⟨x.toNat,by omega⟩;obtain⟨i,rfl⟩:∃k:Nat,i=(k:Int):=⟨i.toNat,by omega⟩;obtain⟨e,rfl⟩:∃k:Nat,e=(k:Int):=⟨e.toNat,by omega⟩;obtain⟨U,hU⟩:∃U,(ar L m (i:Int)).flatMap (wV L 0)=U:=⟨_,rfl⟩;have hUl:U.length≤128000:=by
  rw[←hU];have:=(lg (wV L 0) m _ hc he0 fun p hpm=>nh hp hGL 0 p (fQ m _ hc he0 p hpm).2.2.1 (Or.inl rfl)).2.1;omega
 have HU:=aj hU;rw[hU];have HK:=aj hks;have HM0:=aj hM;have HIH:=aj ih;have hcz:=hM.lt;have HC0:=aj hc;have HMo:Hid (∀(z:Nat) (m':Nat) (W:World),aD W a L→bd L m' (z:Int) (e:Int)→ah 15 #[.slice a L.length cap,.int .i64 z] W (aA (.bool (decide (0<m'))) W)):=fun z m' W hW hcz=>by
  have hze:=bK m' _ hcz he0;have:=iA a cap L (z:Int) W hW (by omega) (by omega) (by omega);cases m' with
  |zero =>
   have eqz:(z:Int)=(e:Int):=hcz;rw[eqz,he,Bool.not_true,Bool.and_false]at this;rw[eqz];exact this
  |succ m' =>
   rw[l7 hcz.1,decide_eq_true (by omega)]at this;exact this
 have HEn:Hid (∀(z:Nat) (W:World),aD W a L→z≤L.length→ah 16 #[.slice a L.length cap,.int .i64 z] W (aA (.int .i64 (ag L z)) W)):=fun z W hW hz=>dk a cap L (z:Int) W hW (by omega) ⟨by omega,by omega⟩
 have HIn:Hid (∀(z:Nat) (W:World),aD W a L→z<L.length→ah 49 #[.slice a L.length cap,.int .i64 x,.int .i64 z,.bool b] W (aA (.bool (dK L (x:Int) (z:Int) b)) W)):=fun z W hW hz=>vK a cap L x z b W hW (by omega) (by omega) hz
 have hO0:=od w w.heap.size (Nat.le_refl _);have hb0:=ay (Below.refl w.heap.size w) (.cells #[] 9);have HM1:Hid (Mb c gn cn gf fc (w.alloc (.cells #[] 9)) a L X (aX (aL L) (i:Int))):=hM.call hb0;have hBu0:=az.j (c:=c) hb0;obtain⟨nL,hnL⟩:∃nL,L.length=nL:=⟨_,rfl⟩;have HnL:=aj hnL;rw[hnL]at HMo HEn HIn hel hL ⊢;clear hks hU ih hM hx1 hnL he hc hb0;go_enter func32,ntmps32;go_wp2;go_loopw [4,13] (fun v4 v13 wr=>∃(m' g5 n5 c5 z:Nat) (D:af),v4=.int .i64 (z:Int)∧v13=.slice (some ⟨g5,0,none⟩) n5 c5∧Hid (bd L m' (z:Int) (e:Int))∧Hid (∀k∈ar L m' (z:Int),(dK L (x:Int) k b=fI L (cr L) k∨Calm L k)∧(ag L k-k).toNat≤n)∧Hid (D++(ar L m' (z:Int)).flatMap (wV L 0)=U)∧Hid (aG wr w.heap.size g5 n5 c5 D)∧Hid (Mb c gn cn gf fc wr a L X (aX (aL L) (z:Int)))∧az c w wr) (fun v4 _ _=>e-(intOf v4).toNat)
 case atStart=>exact⟨m,_,0,0,i,[],rfl,rfl,HC0.out,HK.out,HU.out,hO0,HM1.out,hBu0⟩
 case round =>
  clear hO0 hBu0 HM1 HC0 HK HU;obtain⟨m',g5,n5,c5,z,D,rfl,rfl,HC,HK,HD,HOw,HM,hBu⟩:=hrel;have hze:=bK m' _ HC.out he0;go_wp2_with fail;refine(HMo.out z m' _ HM.out.arg.arg HC.out).mono ?_;rintro r w1 ⟨rfl,hb1⟩;have HM2:Hid (Mb c gn cn gf fc w1 a L X (aX (aL L) (z:Int))):=HM.out.call hb1;have HO2:Hid (aG w1 w.heap.size g5 n5 c5 D):=bO HOw.out hb1;have hBu1:=hBu.trans (az.j (c:=c) hb1);clear HM HOw hb1 hBu;cases m' with
  |zero =>
   have eqz:(z:Int)=(e:Int):=HC.out;have HF:Hid (aG w1 w.heap.size g5 n5 c5 U):=by
    show aG w1 w.heap.size g5 n5 c5 U;have e2:D++[]=U:=HD.out;rw[←e2,List.append_nil];exact HO2.out
   have HMe:Hid (Mb c gn cn gf fc w1 a L X (aX (aL L) (e:Int))):=by
    have:=HM2.out;rw[eqz]at this;exact this
   clear eqz HC HK HD HO2 HM2;go_wp2;go_ret;exact⟨_,_,_,rfl,HF.out,hBu1,HMe.out⟩
  |succ m' =>
   obtain⟨hz0,hm2⟩:=HC.out;have hzu:=cZ hz0;rw[HnL.out]at hzu;have hq:=bK m' _ hm2 he0;obtain⟨hfl,hzn⟩:=HK.out (z:Int) (List.mem_cons_self ..);obtain⟨z2,hz2⟩:∃z2:Nat,ag L (z:Int)=(z2:Int):=⟨(ag L z).toNat,by omega⟩;have HK2:Hid (∀k∈ar L m' (z2:Int),(dK L (x:Int) k b=fI L (cr L) k∨Calm L k)∧(ag L k-k).toNat≤n):=fun k hk=>HK.out k (by
    show k∈(z:Int)::ar L m' (ag L z);rw[hz2];exact List.mem_cons_of_mem _ hk)
   obtain⟨S,hS⟩:∃S,wV L 0 (z:Int)=S:=⟨_,rfl⟩;have HD2:Hid ((D++S)++(ar L m' (z2:Int)).flatMap (wV L 0)=U):=by
    show(D++S)++_=U;have h1:D++(wV L 0 (z:Int)++(ar L m' (ag L z)).flatMap (wV L 0))=U:=HD.out;rw[hz2,hS]at h1;rw[List.append_assoc];exact h1
   have hDl:D.length+S.length≤400000:=by
    have:=congrArg List.length HD2.out;simp only[List.length_append]at this;omega
   have HCI:Hid (∀W,Mb c gn cn gf fc W a L X (aX (aL L) (z:Int))→ah 17 #[.pointer (some ⟨c,0,none⟩),.slice a nL cap,.slice (some ⟨gf,0,none⟩) nL fc,.int .i64 z,.bool (dK L (x:Int) (z:Int) b)] W fun e w'=>∃g n' cp,e=.returned (.slice (some ⟨g,0,none⟩) n' cp)∧aG w' W.heap.size g n' cp S∧az c W w'∧Mb c gn cn gf fc w' a L X (aX (aL L) (z2:Int))):=fun W hW=>by
    have:=HIH.out (z:Int) _ W hW hz0 hzn hfl;rwa [HnL.out,hS,hz2]at this
   have HC2:Hid (bd L m' (z2:Int) (e:Int)):=by
    show bd L m' (z2:Int) (e:Int);rw[←hz2];exact hm2
   have HE2:Hid (∀W,aD W a L→ah 16 #[.slice a nL cap,.int .i64 z] W (aA (.int .i64 z2) W)):=fun W hW=>by
    have:=HEn.out z W hW (by omega);rwa [hz2]at this
   have hzz:z<z2:=by omega
   have hze2:z2≤e:=by omega
   have HI2:Hid (∀W,aD W a L→ah 49 #[.slice a nL cap,.int .i64 x,.int .i64 z,.bool b] W (aA (.bool (dK L (x:Int) (z:Int) b)) W)):=fun W hW=>HIn.out z W hW (by omega)
   obtain⟨ib,hib⟩:∃ib,dK L (x:Int) (z:Int) b=ib:=⟨_,rfl⟩;rw[hib]at HCI HI2;clear hib hS hz2 hzn hfl hzu hz0 hm2 hq HK HD HC HIn HEn HMo HIH;go_wp2_with fail;refine(HI2.out _ HM2.out.arg.arg).mono ?_;rintro r w2 ⟨rfl,hb2⟩;have HM3:Hid (Mb c gn cn gf fc w2 a L X (aX (aL L) (z:Int))):=HM2.out.call hb2;have HO3:Hid (aG w2 w.heap.size g5 n5 c5 D):=bO HO2.out hb2;have hBu2:=hBu1.trans (az.j (c:=c) hb2);clear HM2 HO2 hb2 hBu1 HI2;go_wp2_with fail;refine(HCI.out _ HM3.out).mono ?_;rintro r w3 ⟨g3,n3,c3,rfl,hO3,hbu3,hM3⟩;have hBu3:=hBu2.trans hbu3;have hS3:=aG.sl hO3;have hO4:=wB HO3.out hbu3 hcz;have hz3:=hBu3.2.2.2.1;have HM4:=aj hM3;clear hM3 hbu3 hO3 hBu2 HO3 HM3 HCI;go_wp2_with (at_builtin;refine jc _ rfl _ _ rfl rfl rfl hO4 hS3 hDl hz3 ?_)
   intro g6 c6 w5 hO5 hb5;have HM5:Hid (Mb c gn cn gf fc w5 a L X (aX (aL L) (z2:Int))):=HM0.out.R HM4.out hBu3 hb5;have hBu5:=oM hBu3 hb5;have HO5:=aj hO5;clear hO5 hb5 HM4 hO4 hS3 hz3 hBu3;obtain⟨n6,hn6⟩:∃n6,n5+S.length=n6:=⟨_,rfl⟩;rw[hn6]at HO5 ⊢;go_wp2_with fail;refine(HE2.out _ HM5.out.arg.arg).mono ?_;rintro r w6 ⟨rfl,hb6⟩;have HM6:Hid (Mb c gn cn gf fc w6 a L X (aX (aL L) (z2:Int))):=HM5.out.call hb6;have HO6:Hid (aG w6 w.heap.size g6 n6 c6 (D++S)):=bO HO5.out hb6;have hBu6:=hBu5.trans (az.j (c:=c) hb6);clear HM5 HO5 hBu5 hb6;go_wp2;go_roundw
   case rel=>exact⟨m',g6,n6,c6,z2,D++S,by go_num,by go_num,HC2.out,HK2.out,HD2.out,HO6.out,HM6.out,hBu6⟩
   case measure=>simp[intOf];omega
theorem OB(f:ByteArray)(U:af):[al,bx,al,fV,f,al,eJ,al,bG,al,aq]++U++[aq,aq,aq,al,cF,al,cA,f,gZ,aq,al,bx,aq]++[al,cF,al,cA,al,dY,f,dh,aq,bV,aq,al,bm,al,dY,f,bV,aq,aq]++[al,cF,al,cA,al,dY,f,dh,aq,cl,aq,al,dL,aq,al,dU,aq,aq]++[aq,aq,aq]=jL 0 f U:=by
 simp[jL,lG,iH,dT,fg,jC,bg]
theorem E7{L:af}{i e:Int}{k:Nat}{p:Int}(hp:aR L=true)(hd:cr L i=true)(c1:bd L k (i+2) e)(c2:0≤e)(c3:e<(L.length:Int))(he:ae (aa L e) [41]=true)(hpm:p∈ar L k (i+2)):Kk L p:=by
 obtain⟨o1,o2⟩:=eM (kn hd);have hv:aH L i:=Or.inr (mg hp (mA o2 (by decide)));obtain⟨k',e',q1d,q2,q3⟩:=hv.OK o1 o2;have hse:=dH q2;obtain⟨q1,_⟩:=eK k' _ q1d;rw[←ly c1 c2 (by omega) (bP he),ef q1 hse.1 (by omega) (bP q2)]at hpm;exact mH (jz k' _ q1 hse.1 p hpm).2.2.1
section
variable {gI cI:Nat} {In:af} {w3:World} (hTx:Tx w3 gI 0 In) (hG:∀ s∈In,Gs s) (hl:In.length≤128000) (hc1:In.length≤cI) (hc2:cI≤9223372036854775807)
include hTx hG hl hc1 hc2
theorem Oe(L:af)(P:af)(p:Int)(Ps:List Int)(hIn:P++(p::Ps).flatMap (wV L 0)=In)(hI:cS (wV L 0 p))(hM:MO (L.length+10) false (wV L 0 p) (wV L 1 p))(hU:(wV L 1 p).length≤300000)(W:World)(hW:ai w3 W) :
  (ah 15 #[.slice (some ⟨gI,0,none⟩) In.length cI,.int .i64 (P.length:Int)] W (aA (.bool true) W)) ∧
  (ah 57 #[.slice (some ⟨gI,0,none⟩) In.length cI,.int .i64 (P.length:Int),.bool false] W fun e w'=>∃g' n' cp,e=.returned (.slice (some ⟨g',0,none⟩) n' cp)∧aG w' W.heap.size g' n' cp (wV L 1 p)∧ai W w') ∧
  (ah 16 #[.slice (some ⟨gI,0,none⟩) In.length cI,.int .i64 (P.length:Int)] W (aA (.int .i64 ((P.length+(wV L 0 p).length:Nat):Int)) W))∧P.length+(wV L 0 p).length≤In.length∧0<(wV L 0 p).length:=by
 obtain⟨R,hR⟩:∃R,Ps.flatMap (wV L 0)=R:=⟨_,rfl⟩;have hY:In=P++(wV L 0 p++R):=by rw[←hIn,←hR];rfl
 have hE:ag In (P.length:Int)=((P.length+(wV L 0 p).length:Nat):Int):=by rw[hY];exact hI.2.2 P R
 have h0:=hI.2.1;have hle:P.length+(wV L 0 p).length≤In.length:=by rw[hY];simp
 refine⟨?_,?_,wq (c:=cI) hTx rfl hG (by omega) P (wV L 0 p) R hY hI W hW,hle,h0⟩
 ·have:=iA (some ⟨gI,0,none⟩) cI In (P.length:Int) W ((hTx.call hW).arg hG) (by omega) (by omega) (by omega);rw[l7 (by rw[hE];omega),decide_eq_true (by omega)]at this;exact this
 ·have hTW:=hTx.call hW;rw[hY]at hTW hG hl hc1;have:=B6 (L.length+10) false P (wV L 0 p) R (wV L 1 p) gI 0 cI W hM hI hTW hc1 hc2 hG (by omega) hU;rwa [←hY]at this
omit hc1 hc2 in
theorem Od(W:World)(hW:ai w3 W):(ah 15 #[.slice (some ⟨gI,0,none⟩) In.length cI,.int .i64 (In.length:Int)] W (aA (.bool false) W)):=by
 have:=iA (some ⟨gI,0,none⟩) cI In (In.length:Int) W ((hTx.call hW).arg hG) (by omega) (by omega) (by omega);rw[decide_eq_false (by omega),Bool.false_and]at this;exact this
end
set_option maxRecDepth 100000 in
set_option maxHeartbeats 8000000 in
theorem Oc{c gn cn gf fc:Nat}{a:Option Addr}{cap:Nat}{L:af}{n K:Nat}(hp:aR L=true)(hGL:∀s∈L,Gs s)(ih:ud c gn cn gf fc a cap L (bL (bJ L) K 0) n)(hK:(aL L).length≤K)(hK2:K≤2000)(i:Int)(w:World)(hM:Mb c gn cn gf fc w a L (bL (bJ L) K 0) (aX (aL L) i))(hd:cr L i=true)(hn:(ag L i-i).toNat≤n+1) :
  ah 31 #[.pointer (some ⟨c,0,none⟩),.slice a L.length cap,.slice (some ⟨gf,0,none⟩) L.length fc,.int .i64 i] w fun e w'=>∃g n' cp,e=.returned (.slice (some ⟨g,0,none⟩) n' cp)∧aG w' w.heap.size g n' cp (wV L 0 i)∧az c w w'∧Mb c gn cn gf fc w' a L (bL (bJ L) K 0) (aX (aL L) (ag L i)):=by
 have hL:=gy hp;obtain⟨k,e,c1,c2,c3,c4,c5,c6,c7,c8,c9,c10,_⟩:=su hp hGL hd;obtain⟨o1,o2⟩:=eM (kn hd);have he41:ae (aa L e) [41]=true:=by
  obtain⟨_,e',_,_,_,he,hit⟩:=iz o1 (by rw[c6];omega);have:e'=e:=by omega
  rwa [this]at he
 have hcn2:aX (aL L) (i+2)=aX (aL L) i+1:=by
  rw[show i+2=(i+1)+1 by omega,qi (sx (aQ o2 (by decide))),Eu hd]
 have hce:aX (aL L) (ag L i)=aX (aL L) e:=by
  rw[c6,qi (sx (aQ he41 (by decide)))]
 obtain⟨x1,_,x3⟩:=zD hL hd K hK;obtain⟨x4,x5⟩:=List.getElem?_eq_some_iff.1 x3;have hchs:∀p∈ar L k (i+2),(dK L i p false=fI L (cr L) p∨Calm L p)∧(ag L p-p).toNat≤n:=fun p hpm=>by
  obtain⟨d1,d2,d3,d4⟩:=fQ k _ c1 c2 p hpm;exact⟨E6 hd c1 c2 c3 c6 hpm,by omega⟩
 have hits:∀p∈ar L k (i+2),cS (wV L 0 p)∧MO (L.length+10) false (wV L 0 p) (wV L 1 p):=fun p hpm=>by
  have h0:=(fQ k _ c1 c2 p hpm).2.2.1;refine⟨(nh hp hGL 0 p h0 (Or.inl rfl)).1,Dz hp hGL p h0 ?_⟩;exact E7 hp hd c1 c2 c3 he41 hpm
 obtain⟨i,rfl⟩:∃k:Nat,i=(k:Int):=⟨i.toNat,by omega⟩;obtain⟨In,hIn⟩:∃In,(ar L k ((i:Int)+2)).flatMap (wV L 0)=In:=⟨_,rfl⟩;obtain⟨U,hU⟩:∃U,(ar L k ((i:Int)+2)).flatMap (wV L 1)=U:=⟨_,rfl⟩;obtain⟨Ps,hPs⟩:∃Ps,ar L k ((i:Int)+2)=Ps:=⟨_,rfl⟩;obtain⟨f,hf⟩:∃f,ji L (i:Int)=f:=⟨_,rfl⟩;have HR0:Hid (∀W,Mb c gn cn gf fc W a L (bL (bJ L) K 0) (aX (aL L) (i:Int)+1)→ah 32 #[.pointer (some ⟨c,0,none⟩),.slice a L.length cap,.slice (some ⟨gf,0,none⟩) L.length fc,.int .i64 i,.int .i64 ((i:Int)+2),.bool false] W fun e' w'=>∃g n' cp,e'=.returned (.slice (some ⟨g,0,none⟩) n' cp)∧aG w' W.heap.size g n' cp In∧az c W w'∧Mb c gn cn gf fc w' a L (bL (bJ L) K 0) (aX (aL L) (ag L i))):=fun W hW=>by
  rw[←hcn2]at hW;have:=ih (i:Int) ((i:Int)+2) e k false W hW c4 (by omega) c1 c2 c3 he41 hchs;rwa [hIn,←hce]at this
 have HN0:Hid (ah 56 #[.pointer (some ⟨c,0,none⟩)] w fun e w'=>e=.returned (.string f)∧Mb c gn cn gf fc w' a L (bL (bJ L) K 0) (aX (aL L) (i:Int)+1)∧az c w w'):=by
  have:=Jf hM x4 (by rw[oW];omega);rwa [x5,hf]at this
 have hcz:=hM.lt;rw[hPs]at hIn hU hits;rw[hPs,hIn]at c8 c9;rw[hPs,hU]at c10;have HW:Hid (wV L 0 (i:Int)=[al,bx,al,fV,f,al,eJ,al,bG,al,aq]++U++[aq,aq,aq,al,cF,al,cA,f,gZ,aq,al,bx,aq]++[al,cF,al,cA,al,dY,f,dh,aq,bV,aq,al,bm,al,dY,f,bV,aq,aq]++[al,cF,al,cA,al,dY,f,dh,aq,cl,aq,al,dL,aq,al,dU,aq,aq]++[aq,aq,aq]):=by
  show wV L 0 (i:Int)=_;rw[c7,hPs,hU,hf,OB]
 have HIts:=aj hits;have HI0:=aj hIn;have HU0:=aj hU;obtain⟨V,hV⟩:∃V,wV L 0 (i:Int)=V:=⟨_,rfl⟩;obtain⟨kE,hkE⟩:∃kE,aX (aL L) (ag L i)=kE:=⟨_,rfl⟩;rw[hV]at HW;rw[hkE]at HR0;rw[hV,hkE];have hw2:IntKind.i64.wrap ((i:Int)+2)=(i:Int)+2:=by rw[IntKind.wrap_i64];omega
 have hi2:(i:Int)+2≤9223372036854775807:=by omega
 clear hV hkE hf hits hIn hU hPs hchs x1 x3 x4 x5 hcn2 hce he41 o1 o2 c1 c7 hd hn ih hM c6 c5 c3;go_enter func31,ntmps31;go_wp2_with fail;refine HN0.out.mono ?_;rintro r w1 ⟨rfl,hM1,hbu1⟩;have HM1:=aj hM1;clear hM1 HN0;go_wp2_with fail;refine(HR0.out _ HM1.out).mono ?_;rintro r w3 ⟨gI,nI,cI,rfl,hOI,hbu3,hM3⟩;have HM3:=aj hM3;have hBu3:=hbu1.trans hbu3;obtain⟨hTI,rfl⟩:Tx w3 gI 0 In∧nI=In.length:=by
  have hr:=hOI.row.1;refine⟨⟨hr.1,fun j hj=>by rw[Nat.zero_add];exact(hr.2 j hj).1⟩,?_⟩;have:=hOI.1;simpa using this.symm
 have hcp:In.length≤cI∧cI≤maxLen:=by
  rcases hOI.2 with⟨hv,_⟩|⟨g9,c9',cur,hv,_,_,h1,h2,_⟩
  ·cases hv
  ·cases hv;exact⟨by omega,h2⟩
 have hml:maxLen≤9223372036854775807:=by decide +kernel
 have HIt:Hid (∀(P:af) (p:Int) (Ps:List Int),P++(p::Ps).flatMap (wV L 0)=In→cS (wV L 0 p)→MO (L.length+10) false (wV L 0 p) (wV L 1 p)→(wV L 1 p).length≤300000→∀W:World,ai w3 W →
  (ah 15 #[.slice (some ⟨gI,0,none⟩) In.length cI,.int .i64 (P.length:Int)] W (aA (.bool true) W)) ∧
  (ah 57 #[.slice (some ⟨gI,0,none⟩) In.length cI,.int .i64 (P.length:Int),.bool false] W fun e w'=>∃g' n' cp,e=.returned (.slice (some ⟨g',0,none⟩) n' cp)∧aG w' W.heap.size g' n' cp (wV L 1 p)∧ai W w') ∧
  (ah 16 #[.slice (some ⟨gI,0,none⟩) In.length cI,.int .i64 (P.length:Int)] W (aA (.int .i64 ((P.length+(wV L 0 p).length:Nat):Int)) W))∧P.length+(wV L 0 p).length≤In.length∧0<(wV L 0 p).length):=fun P p Ps e1 e2 e3 e4 W hW=>Oe hTI c9 c8 hcp.1 (by omega) L P p Ps e1 e2 e3 e4 W hW
 have HEn:Hid (∀W:World,ai w3 W→(ah 15 #[.slice (some ⟨gI,0,none⟩) In.length cI,.int .i64 (In.length:Int)] W (aA (.bool false) W))):=fun W hW=>Od hTI c9 c8 W hW
 have hz3:w.heap.size≤w3.heap.size:=hBu3.2.2.2.1;have hbA:=ay (Below.refl w3.heap.size w3) (.cells #[.string ⟨#[40]⟩,.string ⟨#[100,111]⟩,.string ⟨#[40]⟩,.string ⟨#[108,101,116]⟩,.string f,.string ⟨#[40]⟩,.string ⟨#[99,97,108,108]⟩,.string ⟨#[40]⟩,.string ⟨#[102,110]⟩,.string ⟨#[40]⟩,.string ⟨#[41]⟩] 9);have hOA:aG (w3.alloc (.cells #[.string ⟨#[40]⟩,.string ⟨#[100,111]⟩,.string ⟨#[40]⟩,.string ⟨#[108,101,116]⟩,.string f,.string ⟨#[40]⟩,.string ⟨#[99,97,108,108]⟩,.string ⟨#[40]⟩,.string ⟨#[102,110]⟩,.string ⟨#[40]⟩,.string ⟨#[41]⟩] 9)) w3.heap.size w3.heap.size 11 11 [al,bx,al,fV,f,al,eJ,al,bG,al,aq]:=mV w3 _ (by simp);obtain⟨nI,hnI⟩:∃nI,In.length=nI:=⟨_,rfl⟩;have HnI:=aj hnI;rw[hnI]at HIt HEn c8 ⊢;clear hM3 HM1 HR0 hOI hbu3 hbu1 hTI hcp hml hnI c9;go_wp2;go_loopw [11,12] (fun v11 v12 wr=>∃(Qs:List Int) (g5 n5 c5 z:Nat) (P D:af),v12=.int .i64 (z:Int)∧v11=.slice (some ⟨g5,0,none⟩) n5 c5∧Hid (P.length=z∧P++Qs.flatMap (wV L 0)=In)∧Hid (∀p∈Qs,cS (wV L 0 p)∧MO (L.length+10) false (wV L 0 p) (wV L 1 p))∧Hid (D++Qs.flatMap (wV L 1)=U)∧Hid (aG wr w3.heap.size g5 n5 c5 ([al,bx,al,fV,f,al,eJ,al,bG,al,aq]++D))∧ai w3 wr) (fun _ v12 _=>nI-(intOf v12).toNat)
 case atStart=>exact⟨Ps,_,11,11,0,[],[],rfl,rfl,⟨rfl,HI0.out⟩,HIts.out,HU0.out,hOA,hbA⟩
 case round =>
  clear hOA hbA HI0 HU0 HIts;obtain⟨Qs,g5,n5,c5,z,P,D,rfl,rfl,HP,HQ,HD,HOw,hB⟩:=hrel;cases Qs with
  |nil =>
   have HDU:Hid (D=U):=by
    show D=U;have:D++[]=U:=HD.out;rwa [List.append_nil]at this
   have hzn:z=nI:=by
    have h1:P++[]=In:=HP.out.2;rw[List.append_nil]at h1;rw[←HP.out.1,h1];exact HnI.out
   subst hzn;have HO1:Hid (aG wr w3.heap.size g5 n5 c5 ([al,bx,al,fV,f,al,eJ,al,bG,al,aq]++U)):=by
    have:=HOw.out;rwa [HDU.out]at this
   clear HDU HD HQ HP HOw;go_wp2_with fail;refine(HEn.out _ hB).mono ?_;rintro r v1 ⟨rfl,hb1⟩;have hB1:=aw hB hb1;have hO1:=bO HO1.out hb1;clear hB hb1 HO1 HEn HIt;obtain⟨E0,hE0⟩:∃E,[al,bx,al,fV,f,al,eJ,al,bG,al,aq]++U=E:=⟨_,rfl⟩;have HE0:=aj hE0;have hl0:E0.length≤200000:=by rw[←hE0];simp;omega
   rw[hE0]at hO1;clear hE0;have hS1:=dM v1 [aq,aq,aq,al,cF,al,cA,f,gZ,aq,al,bx,aq] 9;have hx1:=ay (Below.refl v1.heap.size v1) (.cells #[.string ⟨#[41]⟩,.string ⟨#[41]⟩,.string ⟨#[41]⟩,.string ⟨#[40]⟩,.string ⟨#[105,102]⟩,.string ⟨#[40]⟩,.string ⟨#[61]⟩,.string f,.string ⟨#[110,111,110,101]⟩,.string ⟨#[41]⟩,.string ⟨#[40]⟩,.string ⟨#[100,111]⟩,.string ⟨#[41]⟩] 9);have hP1:=bO hO1 hx1;have hC1:=aw hB1 hx1;have hs1:=hC1.size;have hq1:E0.length+[aq,aq,aq,al,cF,al,cA,f,gZ,aq,al,bx,aq].length≤400000:=by simp;omega
   clear hO1 hB1 hx1;go_wp2_with (at_builtin;refine jc _ rfl _ _ rfl rfl rfl hP1 hS1 hq1 hs1 ?_)
   intro h1 m1 y1 hO2 hy1;have hB2:=hC1.trans hy1;clear hP1 hS1 hq1 hs1 hC1 hy1;obtain⟨E1,hE1⟩:∃E,E0++[aq,aq,aq,al,cF,al,cA,f,gZ,aq,al,bx,aq]=E:=⟨_,rfl⟩;have HE1:=aj hE1;have hl1:E1.length≤200020:=by rw[←hE1];simp;omega
   have hO2:aG y1 w3.heap.size h1 (n5+13) m1 E1:=by rw[←hE1];exact hO2
   clear hE1 hl0;have hS2:=dM y1 [al,cF,al,cA,al,dY,f,dh,aq,bV,aq,al,bm,al,dY,f,bV,aq,aq] 9;have hx2:=ay (Below.refl y1.heap.size y1) (.cells #[.string ⟨#[40]⟩,.string ⟨#[105,102]⟩,.string ⟨#[40]⟩,.string ⟨#[61]⟩,.string ⟨#[40]⟩,.string ⟨#[103,101,116]⟩,.string f,.string ⟨#[48]⟩,.string ⟨#[41]⟩,.string ⟨#[49]⟩,.string ⟨#[41]⟩,.string ⟨#[40]⟩,.string ⟨#[98,97,99,107]⟩,.string ⟨#[40]⟩,.string ⟨#[103,101,116]⟩,.string f,.string ⟨#[49]⟩,.string ⟨#[41]⟩,.string ⟨#[41]⟩] 9);have hP2:=bO hO2 hx2;have hC2:=aw hB2 hx2;have hs2:=hC2.size;have hq2:E1.length+[al,cF,al,cA,al,dY,f,dh,aq,bV,aq,al,bm,al,dY,f,bV,aq,aq].length≤400000:=by simp;omega
   clear hO2 hB2 hx2;go_wp2_with (at_builtin;refine jc _ rfl _ _ rfl rfl rfl hP2 hS2 hq2 hs2 ?_)
   intro h2 m2 y2 hO3 hy2;have hB3:=hC2.trans hy2;clear hP2 hS2 hq2 hs2 hC2 hy2;obtain⟨E2,hE2⟩:∃E,E1++[al,cF,al,cA,al,dY,f,dh,aq,bV,aq,al,bm,al,dY,f,bV,aq,aq]=E:=⟨_,rfl⟩;have HE2:=aj hE2;have hl2:E2.length≤200040:=by rw[←hE2];simp;omega
   have hO3:aG y2 w3.heap.size h2 (n5+13+19) m2 E2:=by rw[←hE2];exact hO3
   clear hE2 hl1;have hS3:=dM y2 [al,cF,al,cA,al,dY,f,dh,aq,cl,aq,al,dL,aq,al,dU,aq,aq] 9;have hx3:=ay (Below.refl y2.heap.size y2) (.cells #[.string ⟨#[40]⟩,.string ⟨#[105,102]⟩,.string ⟨#[40]⟩,.string ⟨#[61]⟩,.string ⟨#[40]⟩,.string ⟨#[103,101,116]⟩,.string f,.string ⟨#[48]⟩,.string ⟨#[41]⟩,.string ⟨#[50]⟩,.string ⟨#[41]⟩,.string ⟨#[40]⟩,.string ⟨#[108,101,97,118,101]⟩,.string ⟨#[41]⟩,.string ⟨#[40]⟩,.string ⟨#[110,101,120,116]⟩,.string ⟨#[41]⟩,.string ⟨#[41]⟩] 9);have hP3:=bO hO3 hx3;have hC3:=aw hB3 hx3;have hs3:=hC3.size;have hq3:E2.length+[al,cF,al,cA,al,dY,f,dh,aq,cl,aq,al,dL,aq,al,dU,aq,aq].length≤400000:=by simp;omega
   clear hO3 hB3 hx3;go_wp2_with (at_builtin;refine jc _ rfl _ _ rfl rfl rfl hP3 hS3 hq3 hs3 ?_)
   intro h3 m3 y3 hO4 hy3;have hB4:=hC3.trans hy3;clear hP3 hS3 hq3 hs3 hC3 hy3;obtain⟨E3,hE3⟩:∃E,E2++[al,cF,al,cA,al,dY,f,dh,aq,cl,aq,al,dL,aq,al,dU,aq,aq]=E:=⟨_,rfl⟩;have HE3:=aj hE3;have hl3:E3.length≤200060:=by rw[←hE3];simp;omega
   have hO4:aG y3 w3.heap.size h3 (n5+13+19+18) m3 E3:=by rw[←hE3];exact hO4
   clear hE3 hl2;have hS4:=dM y3 [aq,aq,aq] 9;have hx4:=ay (Below.refl y3.heap.size y3) (.cells #[.string ⟨#[41]⟩,.string ⟨#[41]⟩,.string ⟨#[41]⟩] 9);have hP4:=bO hO4 hx4;have hC4:=aw hB4 hx4;have hs4:=hC4.size;have hq4:E3.length+[aq,aq,aq].length≤400000:=by simp;omega
   clear hO4 hB4 hx4;go_wp2_with (at_builtin;refine jc _ rfl _ _ rfl rfl rfl hP4 hS4 hq4 hs4 ?_)
   intro h4 m4 y4 hO5 hy4;have hB5:=hC4.trans hy4;clear hP4 hS4 hq4 hs4 hC4 hy4;obtain⟨E4,hE4⟩:∃E,E3++[aq,aq,aq]=E:=⟨_,rfl⟩;have HE4:=aj hE4;have hl4:E4.length≤200080:=by rw[←hE4];simp;omega
   have hO5:aG y4 w3.heap.size h4 (n5+13+19+18+3) m4 E4:=by rw[←hE4];exact hO5
   clear hE4 hl3;have HF:Hid (aG y4 w.heap.size h4 (n5+13+19+18+3) m4 V):=by
    show aG y4 w.heap.size h4 (n5+13+19+18+3) m4 V;rw[HW.out,HE0.out,HE1.out,HE2.out,HE3.out,HE4.out];exact dW hO5 hz3
   have hBuF:=oM hBu3 (hB5.mono hz3);have HMF:Hid (Mb c gn cn gf fc y4 a L (bL (bJ L) K 0) kE):=HM3.out.call hB5;clear hO5 HW HM3 hB5;go_wp2;go_ret;exact⟨_,_,_,rfl,HF.out,hBuF,HMF.out⟩
  |cons p Qs =>
   obtain⟨q1,q2⟩:=HQ.out p (List.mem_cons_self ..);have hDl:D.length+(wV L 1 p).length≤128000:=by
    have:=congrArg List.length HD.out;have e2:(p::Qs).flatMap (wV L 1)=wV L 1 p++Qs.flatMap (wV L 1):=rfl;rw[e2]at this;simp only[List.length_append]at this;omega
   have HA:=HIt.out P p Qs HP.out.2 q1 q2 (by omega);rw[HP.out.1]at HA;obtain⟨S,hS⟩:∃S,wV L 1 p=S:=⟨_,rfl⟩;obtain⟨z2,hz2⟩:∃z2,z+(wV L 0 p).length=z2:=⟨_,rfl⟩;have HP2:Hid ((P++wV L 0 p).length=z2∧(P++wV L 0 p)++Qs.flatMap (wV L 0)=In):=⟨by rw[List.length_append,HP.out.1,hz2],by rw[List.append_assoc];exact HP.out.2⟩;have HD2:Hid ((D++S)++Qs.flatMap (wV L 1)=U):=by
    show(D++S)++Qs.flatMap (wV L 1)=U;rw[List.append_assoc,←hS];exact HD.out
   have HQ2:Hid (∀p∈Qs,cS (wV L 0 p)∧MO (L.length+10) false (wV L 0 p) (wV L 1 p)):=fun p hpm=>HQ.out p (List.mem_cons_of_mem _ hpm)
   rw[hS,hz2]at HA;rw[hS]at hDl;have hzz:z<z2∧z2≤nI:=by
    have:=HA wr hB;omega
   obtain⟨hzz1,hzz2⟩:=hzz;have H1:Hid (∀W,ai w3 W→(ah 15 #[.slice (some ⟨gI,0,none⟩) nI cI,.int .i64 z] W (aA (.bool true) W))):=fun W hW=>(HA W hW).1
   have H2:Hid (∀W,ai w3 W→(ah 57 #[.slice (some ⟨gI,0,none⟩) nI cI,.int .i64 z,.bool false] W fun e w'=>∃g' n' cp,e=.returned (.slice (some ⟨g',0,none⟩) n' cp)∧aG w' W.heap.size g' n' cp S∧ai W w')):=fun W hW=>(HA W hW).2.1
   have H3:Hid (∀W,ai w3 W→(ah 16 #[.slice (some ⟨gI,0,none⟩) nI cI,.int .i64 z] W (aA (.int .i64 z2) W))):=fun W hW=>(HA W hW).2.2.1
   have hl2:([al,bx,al,fV,f,al,eJ,al,bG,al,aq]++D).length+S.length≤400000:=by
    rw[List.length_append];simp;omega
   clear hz2 hS HP HD HQ HA q1 q2 HIt HEn hDl;go_wp2_with fail;refine(H1.out _ hB).mono ?_;rintro r w4 ⟨rfl,hb4⟩;have hB4:=aw hB hb4;have HO4:Hid (aG w4 w3.heap.size g5 n5 c5 ([al,bx,al,fV,f,al,eJ,al,bG,al,aq]++D)):=bO HOw.out hb4;clear hB hb4 HOw H1;go_wp2_with fail;refine(H2.out _ hB4).mono ?_;rintro e w5 ⟨g2,n2,c2',rfl,hO2,hb5⟩;have hB5:=aw hB4 hb5;have hS2:=aG.sl hO2;have hO5:=bO HO4.out hb5;have hz5:=hB5.size;clear H2 hb5 hO2 HO4 hB4;go_wp2_with (at_builtin;refine jc _ rfl _ _ rfl rfl rfl hO5 hS2 hl2 hz5 ?_)
   intro g6 c6' w6 hO6 hb6;have hB6:=hB5.trans hb6;have HO6:=aj hO6;clear hO6 hb6 hB5 hO5 hS2;obtain⟨n6,hn6⟩:∃n6,n5+S.length=n6:=⟨_,rfl⟩;rw[hn6]at HO6 ⊢;go_wp2_with fail;refine(H3.out _ hB6).mono ?_;rintro e w7 ⟨rfl,hb7⟩;have hB7:=aw hB6 hb7;have HO7:Hid (aG w7 w3.heap.size g6 n6 c6' ([al,bx,al,fV,f,al,eJ,al,bG,al,aq]++(D++S))):=bO HO6.out hb7;clear HO6 hB6 hb7;go_wp2;go_roundw
   case rel=>exact⟨Qs,g6,n6,c6',z2,P++wV L 0 p,D++S,by go_num,by go_num,HP2.out,HQ2.out,HD2.out,HO7.out,hB7⟩
   case measure=>simp[intOf];omega
set_option maxRecDepth 100000 in
set_option maxHeartbeats 2000000 in
theorem Of{c gn cn gf fc:Nat}{a:Option Addr}{cap:Nat}{L:af}{n K:Nat}(hp:aR L=true)(hGL:∀s∈L,Gs s)(ih:ud c gn cn gf fc a cap L (bL (bJ L) K 0) n)(hK:(aL L).length≤K)(hK2:K≤2000):tZ c gn cn gf fc a cap L (bL (bJ L) K 0) (n+1):=by
 intro i b w hM h0 hn hb;have hL:=gy hp;have hu:=cZ h0;have hfl:=E5 hp h0 hb;obtain⟨i,rfl⟩:∃k:Nat,i=(k:Int):=⟨i.toNat,by omega⟩;obtain⟨sb,off,rfl,s0,_,hsb,_⟩:=hM.arg.at i (by omega);have hi1:(i:Int)<(L.length:Int):=by omega
 have hcz:=hM.lt;cases ho:ae (aa L i) [40]
 ·have b40:=aM ho;have hV:wV L 0 (i:Int)=[aa L i]:=OE ho;have hC:aX (aL L) (ag L i)=aX (aL L) (i:Int):=by rw[mG h0 ho,qi (sx ho)]
  rw[hV,hC];obtain⟨y0,hy0⟩:∃y,aa L (i:Int)=y:=⟨_,rfl⟩;rw[hy0]at s0 b40 ⊢;have hO:=mV w [y0] (by simp);have hbA:=ay (Below.refl w.heap.size w) (.cells #[.string y0] 9);have HM:Hid (Mb c gn cn gf fc (w.alloc (.cells #[.string y0] 9)) (some ⟨sb,off,none⟩) L (bL (bJ L) K 0) (aX (aL L) (i:Int))):=hM.call hbA;have hBu:=az.j (c:=c) hbA;obtain⟨nL,hnL⟩:∃nL,L.length=nL:=⟨_,rfl⟩;rw[hnL]at hi1 ⊢;clear hM hb hfl hV hC hy0 ho ih hbA hu hn hL hnL h0;go_enter func17,ntmps17;go_wp2;go_ret;exact⟨_,_,_,rfl,hO,hBu,HM.out⟩
 ·have b40:=aM ho;obtain⟨m,e,hc,he0,hel,he,hit⟩:=iz ho h0;have hce:=bK m _ hc he0;obtain⟨sb2,off2,ea,s1,_,_,_⟩:=hM.arg.at (i+1) (by omega);injection ea with ea;injection ea with ea1 ea2 _;subst ea1;subst ea2;rw[show((i+1:Nat):Int)=(i:Int)+1 by omega]at s1;have hflc:=hM.fl.2 i (by omega);have hi2:(i:Int)+1<(L.length:Int):=by omega
  have e1:((i:Int)+1).toNat=i+1:=by omega
  have e2:(0:Int)≤(i:Int)+1:=by omega
  have HM:=aj hM;cases hD:cr L (i:Int)
  ·have hcn:aX (aL L) ((i:Int)+1)=aX (aL L) (i:Int):=qi hD;have hCe:aX (aL L) (ag L i)=aX (aL L) e:=by rw[hit,qi (sx (aQ he (by decide)))]
   have hV:=OD hp ho hD hc he0 (by omega) he;have hInl:((ar L m ((i:Int)+1)).flatMap (wV L 0)).length≤128000:=by
    have:=(lg (wV L 0) m _ hc he0 fun p hpm=>nh hp hGL 0 p (fQ m _ hc he0 p hpm).2.2.1 (Or.inl rfl)).2.1;omega
   obtain⟨In,hIn⟩:∃In,(ar L m ((i:Int)+1)).flatMap (wV L 0)=In:=⟨_,rfl⟩;rw[hIn]at hV hInl;have HR:Hid (∀W,Mb c gn cn gf fc W (some ⟨sb,off,none⟩) L (bL (bJ L) K 0) (aX (aL L) (i:Int))→ah 32 #[.pointer (some ⟨c,0,none⟩),.slice (some ⟨sb,off,none⟩) L.length cap,.slice (some ⟨gf,0,none⟩) L.length fc,.int .i64 i,.int .i64 ((i:Int)+1),.bool b] W fun e' w'=>∃g n' cp,e'=.returned (.slice (some ⟨g,0,none⟩) n' cp)∧aG w' W.heap.size g n' cp In∧az c W w'∧Mb c gn cn gf fc w' (some ⟨sb,off,none⟩) L (bL (bJ L) K 0) (aX (aL L) (ag L i))):=fun W hW=>by
    rw[←hcn]at hW;have:=ih (i:Int) ((i:Int)+1) e m b W hW (by omega) (by omega) hc he0 (by omega) he fun p hpm=>by
     obtain⟨d1,d2,d3,d4⟩:=fQ m _ hc he0 p hpm;exact⟨G4 hp ho hc he0 hit hpm hD hb,by omega⟩
    rwa [hIn,←hCe]at this
   rw[hV];obtain⟨kE,hkE⟩:∃kE,aX (aL L) (ag L i)=kE:=⟨_,rfl⟩;rw[hkE]at HR ⊢;have hF:b=false∨(b=true∧ae (aa L ((i:Int)+1)) [100,111]=false)∨(b=true∧ae (aa L ((i:Int)+1)) [100,111]=true∧fG L i=false):=by
    rw[hD]at hfl;unfold bU at hfl;rw[ho,Bool.true_and,Int.toNat_natCast]at hfl;cases b
    ·exact Or.inl rfl
    ·cases hq:ae (aa L ((i:Int)+1)) [100,111]
     ·exact Or.inr (Or.inl ⟨rfl,rfl⟩)
     ·rw[hq]at hfl;exact Or.inr (Or.inr ⟨rfl,rfl,by simpa using hfl⟩)
   have hO:=mV w [al] (by simp);have hbA:=ay (Below.refl w.heap.size w) (.cells #[.string ⟨#[40]⟩] 9);have HMA:Hid (Mb c gn cn gf fc (w.alloc (.cells #[.string ⟨#[40]⟩] 9)) (some ⟨sb,off,none⟩) L (bL (bJ L) K 0) (aX (aL L) (i:Int))):=hM.call hbA;have hBuA:=az.j (c:=c) hbA;obtain⟨y0,hy0⟩:∃y,aa L (i:Int)=y:=⟨_,rfl⟩;obtain⟨y1,hy1⟩:∃y,aa L ((i:Int)+1)=y:=⟨_,rfl⟩;obtain⟨fl,hfl1⟩:∃fl,fG L i=fl:=⟨_,rfl⟩;rw[hy0]at s0 b40;rw[hy1]at s1 hF;rw[hfl1]at hF hflc;obtain⟨nL,hnL⟩:∃nL,L.length=nL:=⟨_,rfl⟩;rw[hnL]at hi1 hi2 HR hL ⊢;have hl1:[al].length+In.length≤400000:=by simp;omega
   clear hM hb hfl hV hCe hcn hkE hIn hy0 hy1 hfl1 ho ih hbA hu hn hnL h0 hc he hit hel hce hD;rcases hF with rfl|⟨rfl,hdo⟩|⟨rfl,hdo,rfl⟩
   all_goals try have bdo:(y1.toList==[100,111])=_:=hdo
   all_goals go_enter func17,ntmps17
   all_goals go_wp2_with fail
   all_goals refine(HR.out _ HMA.out).mono ?_
   all_goals rintro r w2 ⟨g2,n2,c2,rfl,hO2,hbu2,hM2⟩
   all_goals have hBu2:=hBuA.trans hbu2
   all_goals have hO1:=wB hO hbu2 hcz
   all_goals have hS2:=aG.sl hO2
   all_goals have hz2:=hBu2.2.2.2.1
   all_goals have HM2:=aj hM2
   all_goals clear HMA hbu2 hM2 hO2 hO hBuA
   all_goals go_wp2_with (at_builtin;refine jc _ rfl _ _ rfl rfl rfl hO1 hS2 hl1 hz2 ?_)
   all_goals intro g3 c3 w3 hO3 hb3
   all_goals have HM3:Hid (Mb c gn cn gf fc w3 (some ⟨sb,off,none⟩) L (bL (bJ L) K 0) kE):=HM.out.R HM2.out hBu2 hb3
   all_goals have hBu3:=oM hBu2 hb3
   all_goals have hz3:=hBu3.2.2.2.1
   all_goals have hbC:=ay (Below.refl w3.heap.size w3) (.cells #[.string ⟨#[41]⟩] 9)
   all_goals have hS4:=dM w3 [aq] 9
   all_goals have hO4:aG (w3.alloc (.cells #[.string ⟨#[41]⟩] 9)) w.heap.size g3 (1+In.length) c3 (al::In):=bO hO3 hbC
   all_goals have HM4:Hid (Mb c gn cn gf fc (w3.alloc (.cells #[.string ⟨#[41]⟩] 9)) (some ⟨sb,off,none⟩) L (bL (bJ L) K 0) kE):=HM3.out.call hbC
   all_goals have hBu4:=hBu3.trans (az.j (c:=c) hbC)
   all_goals have hz4:=hBu4.2.2.2.1
   all_goals have hl2:(al::In).length+[aq].length≤400000:=by simp;omega
   all_goals clear HM2 HM3 hb3 hO3 hbC hBu2 hBu3 hz2 hz3 hO1 hS2
   all_goals go_wp2_with (at_builtin;refine jc _ rfl _ _ rfl rfl rfl hO4 hS4 hl2 hz4 ?_)
   all_goals intro g5 c5 w5 hO5 hb5
   all_goals have HM5:Hid (Mb c gn cn gf fc w5 (some ⟨sb,off,none⟩) L (bL (bJ L) K 0) kE):=HM.out.R HM4.out hBu4 hb5
   all_goals have hBu5:=oM hBu4 hb5
   all_goals have HO5:=aj hO5
   all_goals clear hO5 hb5 HM4 hBu4 hO4 hS4 HM
   all_goals go_wp2
   all_goals go_ret
   all_goals exact⟨_,_,_,rfl,HO5.out,hBu5,HM5.out⟩
  ·rw[hD]at hfl;unfold bU at hfl;rw[ho,Bool.true_and,Int.toNat_natCast,Bool.and_eq_true,Bool.and_eq_true]at hfl;obtain⟨rfl,hdo,hfg⟩:=hfl;have bdo:((aa L ((i:Int)+1)).toList==[100,111])=true:=hdo;have HDo:Hid (ah 31 #[.pointer (some ⟨c,0,none⟩),.slice (some ⟨sb,off,none⟩) L.length cap,.slice (some ⟨gf,0,none⟩) L.length fc,.int .i64 i] w fun e w'=>∃g n' cp,e=.returned (.slice (some ⟨g,0,none⟩) n' cp)∧aG w' w.heap.size g n' cp (wV L 0 (i:Int))∧az c w w'∧Mb c gn cn gf fc w' (some ⟨sb,off,none⟩) L (bL (bJ L) K 0) (aX (aL L) (ag L i))):=Oc hp hGL ih hK hK2 (i:Int) w hM hD hn;obtain⟨y0,hy0⟩:∃y,aa L (i:Int)=y:=⟨_,rfl⟩;obtain⟨y1,hy1⟩:∃y,aa L ((i:Int)+1)=y:=⟨_,rfl⟩;rw[hfg]at hflc;rw[hy0]at s0 b40;rw[hy1]at s1 bdo;obtain⟨V,hV⟩:∃V,wV L 0 (i:Int)=V:=⟨_,rfl⟩;obtain⟨kE,hkE⟩:∃kE,aX (aL L) (ag L i)=kE:=⟨_,rfl⟩;obtain⟨nL,hnL⟩:∃nL,L.length=nL:=⟨_,rfl⟩;rw[hV,hkE,hnL]at HDo;rw[hV,hkE];rw[hnL]at hi1 hi2 hL ⊢;clear hM hb hV hkE hy0 hy1 ho ih hu hn hnL h0 hc he hit hel hce hD hdo hfg HM;go_enter func17,ntmps17;go_wp2_with fail;refine HDo.out.mono ?_;rintro r w2 ⟨g2,n2,c2,rfl,hO2,hbu2,hM2⟩;have HM2:=aj hM2;clear hM2 HDo;go_wp2;go_ret;exact⟨_,_,_,rfl,hO2,hbu2,HM2.out⟩
theorem As{c gn cn gf fc:Nat}{a:Option Addr}{cap:Nat}{L:af}{K:Nat}(hp:aR L=true)(hGL:∀s∈L,Gs s)(hK:(aL L).length≤K)(hK2:K≤2000):∀n,tZ c gn cn gf fc a cap L (bL (bJ L) K 0) n
 |0=>fun i b w _ h0 hn _=>by have:=cZ h0;omega
 |n+1=>Of hp hGL (LK hp hGL (As hp hGL hK hK2 n)) hK hK2
theorem CT(f:Int→Int)(hf:∀p,f p≤1):∀(n:Nat) (i:Int),fp f n i≤(n:Int)
 |0,_=>Int.le_refl _
 |n+1,i=>by
  have h1:=CT f hf n (i+1);have h2:=hf i;show f i+fp f n (i+1)≤((n+1:Nat):Int);omega
theorem G9(L:af):kQ L≤(L.length:Int):=CT _ (fun p=>by
 unfold gG;split
 ·exact(qE _ p).2
 ·decide) _ _
theorem G8{L:af}(hp:aR L=true):0≤kQ L:=by
 have h:=ry (gG L (gF (fG L))) (fun p=>by
  unfold gG;split
  ·exact(qE _ p).1
  ·exact Int.le_refl _) L.length 0 [] List.Pairwise.nil (fun x hx=>by cases hx)
 have:=gy hp;exact h
theorem Ev(L:af):aX (aL L) 0=0:=by
 unfold aX;rw[List.length_eq_zero_iff,List.filter_eq_nil_iff];intro x hx;obtain⟨s,hs,e⟩:=List.mem_map.mp hx;have:=(bF (eM (kn ((mq L x).2 ⟨s,hs,e⟩))).1).1;simp;omega
theorem Hb(g n cp B:Nat)(Z:af)(w:World)(h:aG w B g n cp Z)(hG:∀s∈Z,Gs s)(hl:Z.length≤128000)(hB:B≤w.heap.size) :
  ah 18 #[.slice (some ⟨g,0,none⟩) n cp] w fun e w'=>∃g' n' cp',e=.returned (.slice (some ⟨g',0,none⟩) n' cp')∧aG w' B g' n' cp' (if aR Z=true then Z else [])∧ai w w':=by
 obtain⟨hA,rfl⟩:=B8 h hG;have HP:Hid (ah 25 #[.slice (some ⟨g,0,none⟩) Z.length cp] w (aA (.bool (aR Z)) w)):=rm _ cp Z w hA (by omega);have HO:=aj h;obtain⟨k,hk⟩:∃k,Z.length=k:=⟨_,rfl⟩;clear h hA hG hl;cases hq:aR Z
 ·rw[hq,hk]at HP;rw[hk];go_enter func18,ntmps18;go_wp2_with fail;refine HP.out.mono ?_;rintro e w1 ⟨rfl,hb1⟩;have hN:=od w1 B (Nat.le_trans hB hb1.size);have hB2:=hb1.trans ((ay (Below.refl w1.heap.size w1) (.cells #[] 9)).mono hb1.size);go_wp2;go_ret;exact⟨_,_,_,rfl,hN,hB2⟩
 ·rw[hq,hk]at HP;rw[hk]at HO ⊢;go_enter func18,ntmps18;go_wp2_with fail;refine HP.out.mono ?_;rintro e w1 ⟨rfl,hb1⟩;have hN:=bO HO.out hb1;go_wp2;go_ret;exact⟨_,_,_,rfl,hN,hb1⟩
set_option maxRecDepth 100000 in
theorem Oy(a:Option Addr)(cap:Nat)(L:af)(w:World)(h:aD w a L)(hL0:L.length≤1048576)(hs:iO L=true) :
  ah 5 #[.slice a L.length cap] w fun e w'=>∃g n cp,e=.returned (.slice (some ⟨g,0,none⟩) n cp)∧aG w' w.heap.size g n cp (gQ L)∧ai w w':=by
 have hp:=CY hs;have hL:=gy hp;have hsg:=rn hp;have hGL:=qa h hsg;obtain⟨hzl,hzG⟩:=DJ hp hGL;have HC:Hid (gQ L=if aR (wZ L)=true then wZ L else []):=xG hs;obtain⟨m,hc,hz⟩:=xI hp;have hk0:=G8 hp;have hk1:=G9 L;obtain⟨K,hK⟩:∃K:Nat,kQ L=(K:Int):=⟨(kQ L).toNat,by omega⟩;have hKx:(aL L).length≤K:=by have:=EZ hp;rw[hK]at this;simpa using this
 have hK2:K≤2000:=by omega
 have hm:K*(L.length+1)≤2000*2001:=Nat.mul_le_mul hK2 (by omega);have HSC:Hid (ah 11 #[.slice a L.length cap] w (aA (.bool true) w)):=by
  have:=CZ a cap L w h hL0;rwa [hs]at this
 have HAll:Hid (∀W,ai w W→ah 12 #[.slice a L.length cap] W (aA (.tuple #[.int .i64 (pt L),.int .i64 K]) W)):=fun W hW=>by
  have:=Hc a cap L W (h.call hW) hp;rwa [hK]at this
 have HFl:Hid (∀W,ai w W→ah 13 #[.slice a L.length cap] W fun e w'=>e=.returned (.slice (some ⟨W.heap.size,0,none⟩) L.length L.length)∧cG w' W.heap.size L.length (fG L)∧ai W w'):=fun W hW=>A2 a cap L W (h.call hW) hp
 have HMa:Hid (∀W,ai w W→ah 14 #[.slice a L.length cap,.int .i64 K] W fun e w'=>∃g cp,e=.returned (.slice (some ⟨g,0,none⟩) (bL (bJ L) K 0).length cp)∧Tx w' g 0 (bL (bJ L) K 0)∧ai W w'):=fun W hW=>by
  refine(Hv a cap L K W (h.call hW) hL0 (by omega)).mono ?_;rintro e w' ⟨v,rfl,hO,hb⟩;obtain⟨g,cp,rfl,hG⟩:=hO.own;have hr:=hG.row.1;exact⟨g,cp,rfl,⟨hr.1,fun i hi=>by rw[Nat.zero_add];exact(hr.2 i hi).1⟩,hb⟩
 have HIt:Hid (∀(c gn cn gf:Nat) (k:Int) (W:World),Mb c gn cn gf L.length W a L (bL (bJ L) K 0) (aX (aL L) k)→k∈ar L m 0→ah 17 #[.pointer (some ⟨c,0,none⟩),.slice a L.length cap,.slice (some ⟨gf,0,none⟩) L.length L.length,.int .i64 k,.bool false] W fun e w'=>∃g n' cp,e=.returned (.slice (some ⟨g,0,none⟩) n' cp)∧aG w' W.heap.size g n' cp (wV L 0 k)∧az c W w'∧Mb c gn cn gf L.length w' a L (bL (bJ L) K 0) (aX (aL L) (ag L k))):=fun c gn cn gf k W hM hkm=>by
  obtain⟨d1,d2,d3,d4⟩:=fQ m _ hc (by omega) k hkm;exact As hp hGL hKx hK2 (L.length+2) k false W hM d3 (by omega) (Or.inl (IK hc (by omega) hkm).symm)
 have HMo:Hid (∀(z m':Nat) (W:World),aD W a L→bd L m' (z:Int) (L.length:Int)→ah 15 #[.slice a L.length cap,.int .i64 z] W (aA (.bool (decide (0<m'))) W)):=fun z m' W hW hcz=>by
  have hze:=bK m' _ hcz (by omega);have:=iA a cap L (z:Int) W hW (by omega) (by omega) (by omega);cases m' with
  |zero =>
   have eqz:(z:Int)=(L.length:Int):=hcz;rw[decide_eq_false (by omega),Bool.false_and]at this;exact this
  |succ m' =>
   have hu:=cZ hcz.1;rw[l7 hcz.1,decide_eq_true (by omega)]at this;exact this
 have HEn:Hid (∀(z:Nat) (W:World),aD W a L→z≤L.length→ah 16 #[.slice a L.length cap,.int .i64 z] W (aA (.int .i64 (ag L z)) W)):=fun z W hW hz=>dk a cap L (z:Int) W hW (by omega) ⟨by omega,by omega⟩
 have HA:Hid (∀W,ai w W→∀c,w.heap.size≤c→jN c W a L):=fun W hW c hcz j hj=>by
  obtain⟨sb,off,h1,h2,h3,h4⟩:=h j hj;exact⟨sb,off,h1,Nat.lt_of_lt_of_le h2 hW.size,by omega,(hW.cell (p:=⟨sb,off+j,none⟩) h2).trans h3,h4⟩
 have HCh:=aj hc;have HZ:Hid ([]++(ar L m 0).flatMap (wV L 0)=wZ L):=hz.symm;have Hc0:Hid (aX (aL L) 0=0):=Ev L;obtain⟨X,hX⟩:∃X,bL (bJ L) K 0=X:=⟨_,rfl⟩;rw[hX]at HMa HIt;obtain⟨lps,hlps⟩:∃l,pt L=l:=⟨_,rfl⟩;rw[hlps]at HAll;obtain⟨nL,hnL⟩:∃nL,L.length=nL:=⟨_,rfl⟩;have HnL:=aj hnL;rw[hnL]at HSC HAll HFl HMa HIt HMo HEn HCh hL ⊢;clear hp hsg hGL hc hz hk0 hk1 hK hKx hm hX hlps hnL hs h hL0;go_enter func5,ntmps5;go_wp2_with fail;refine HSC.out.mono ?_;rintro r w1 ⟨rfl,hb1⟩;go_wp2_with fail;refine(HAll.out _ hb1).mono ?_;rintro r w2 ⟨rfl,hb2⟩;have hB2:=aw hb1 hb2;clear hb1 hb2;go_wp2_with fail;refine(HFl.out _ hB2).mono ?_;rintro r w3 ⟨rfl,hFA,hb3⟩;have hB3:=aw hB2 hb3;have hgfz:w2.heap.size<w3.heap.size:=hFA.1;clear hB2 hb3;go_wp2_with fail;refine(HMa.out _ hB3).mono ?_;rintro r w4 ⟨gn,cn,rfl,hTx,hb4⟩;have hB4:=aw hB3 hb4;have hFA4:=hFA.call hb4;clear hB3 hb4 hFA;have hbA:=ay (Below.refl w4.heap.size w4) (.cells #[.slice (some ⟨gn,0,none⟩) X.length cn,.int .i64 0] 34);have hB5:=aw hB4 hbA;have HMb:Hid (Mb w4.heap.size gn cn w2.heap.size nL (w4.alloc (.cells #[.slice (some ⟨gn,0,none⟩) X.length cn,.int .i64 0] 34)) a L X (aX (aL L) 0)):=by
  refine⟨by simp,by simp[go_sem],?_,by simp[go_sem],HA.out _ hB5 _ hB4.size,hTx.call hbA,Nat.ne_of_lt hTx.1,?_,Nat.ne_of_lt hFA4.1⟩
  ·rw[Hc0.out];simp[go_sem]
  ·rw[HnL.out];exact hFA4.call hbA
 have hwz:w.heap.size≤w4.heap.size:=hB4.size;obtain⟨wb,hwb⟩:∃wb,wb=w4.alloc (.cells #[.slice (some ⟨gn,0,none⟩) X.length cn,.int .i64 0] 34):=⟨_,rfl⟩;rw[←hwb]at HMb hB5;have hwbz:wb.heap.size=w4.heap.size+1:=by rw[hwb,World.size_alloc]
 have hO0:=od wb wb.heap.size (Nat.le_refl _);have hb0:=ay (Below.refl wb.heap.size wb) (.cells #[] 9);have HM1:Hid (Mb w4.heap.size gn cn w2.heap.size nL (wb.alloc (.cells #[] 9)) a L X (aX (aL L) 0)):=HMb.out.call hb0;have hBu0:=az.j (c:=w4.heap.size) hb0;have hcz:w4.heap.size<wb.heap.size:=by omega
 clear hB4 hFA4 hTx hbA hb0 hgfz HA Hc0 HSC HAll HFl HMa;go_wp2;rw[←hwb,←hwbz];clear hwb hwbz;go_loopw [7,8] (fun v7 v8 wr=>∃(m' g5 n5 c5 z:Nat) (D:af),v8=.int .i64 (z:Int)∧v7=.slice (some ⟨g5,0,none⟩) n5 c5∧Hid (bd L m' (z:Int) (nL:Int))∧Hid (∀k∈ar L m' (z:Int),k∈ar L m 0)∧Hid (D++(ar L m' (z:Int)).flatMap (wV L 0)=wZ L)∧Hid (aG wr wb.heap.size g5 n5 c5 D)∧Hid (Mb w4.heap.size gn cn w2.heap.size nL wr a L X (aX (aL L) (z:Int)))∧az w4.heap.size wb wr) (fun _ v8 _=>nL-(intOf v8).toNat)
 case atStart=>exact⟨m,_,0,0,0,[],rfl,rfl,HCh.out,fun _ hk=>hk,HZ.out,hO0,HM1.out,hBu0⟩
 case round =>
  clear hO0 hBu0 HM1 HCh HZ;obtain⟨m',g5,n5,c5,z,D,rfl,rfl,HCz,HK,HD,HOw,HM,hBu⟩:=hrel;have hze:=bK m' _ HCz.out (by omega);go_wp2_with fail;refine(HMo.out z m' _ HM.out.arg.arg HCz.out).mono ?_;rintro r v1 ⟨rfl,hb1⟩;have HM2:Hid (Mb w4.heap.size gn cn w2.heap.size nL v1 a L X (aX (aL L) (z:Int))):=HM.out.call hb1;have HO2:Hid (aG v1 wb.heap.size g5 n5 c5 D):=bO HOw.out hb1;have hBu1:=hBu.trans (az.j (c:=w4.heap.size) hb1);clear HM HOw hb1 hBu;cases m' with
  |zero =>
   have HF:Hid (aG v1 wb.heap.size g5 n5 c5 (wZ L)):=by
    show aG v1 wb.heap.size g5 n5 c5 (wZ L);have e2:D++[]=wZ L:=HD.out;rw[←e2,List.append_nil];exact HO2.out
   have hB6:=az.below hB5 hwz hBu1;have hz6:=hBu1.2.2.2.1;have hz5:=hB5.size;clear HCz HK HD HO2 HM2 HMo HEn HIt HMb;go_wp2_with fail;refine(Hb g5 n5 c5 wb.heap.size (wZ L) _ HF.out hzG hzl hz6).mono ?_;rintro r v2 ⟨g6,n6,c6,rfl,hO6,hb6⟩;rw[←HC.out]at hO6;have hO7:=dW hO6 hz5;have hB7:=aw hB6 hb6;clear HC HF hO6 hb6;go_wp2;go_ret;exact⟨_,_,_,rfl,hO7,hB7⟩
  |succ m' =>
   obtain⟨hz0,hm2⟩:=HCz.out;have hzu:=cZ hz0;rw[HnL.out]at hzu;have hq:=bK m' _ hm2 (by omega);obtain⟨z2,hz2⟩:∃z2:Nat,ag L (z:Int)=(z2:Int):=⟨(ag L z).toNat,by omega⟩;have HK2:Hid (∀k∈ar L m' (z2:Int),k∈ar L m 0):=fun k hk=>HK.out k (by
    show k∈(z:Int)::ar L m' (ag L z);rw[hz2];exact List.mem_cons_of_mem _ hk)
   obtain⟨S,hS⟩:∃S,wV L 0 (z:Int)=S:=⟨_,rfl⟩;have HD2:Hid ((D++S)++(ar L m' (z2:Int)).flatMap (wV L 0)=wZ L):=by
    show(D++S)++_=wZ L;have h1:D++(wV L 0 (z:Int)++(ar L m' (ag L z)).flatMap (wV L 0))=wZ L:=HD.out;rw[hz2,hS]at h1;rw[List.append_assoc];exact h1
   have hDl:D.length+S.length≤400000:=by
    have:=congrArg List.length HD2.out;simp only[List.length_append]at this;omega
   have HCI:Hid (∀W,Mb w4.heap.size gn cn w2.heap.size nL W a L X (aX (aL L) (z:Int))→ah 17 #[.pointer (some ⟨w4.heap.size,0,none⟩),.slice a nL cap,.slice (some ⟨w2.heap.size,0,none⟩) nL nL,.int .i64 z,.bool false] W fun e w'=>∃g n' cp,e=.returned (.slice (some ⟨g,0,none⟩) n' cp)∧aG w' W.heap.size g n' cp S∧az w4.heap.size W w'∧Mb w4.heap.size gn cn w2.heap.size nL w' a L X (aX (aL L) (z2:Int))):=fun W hW=>by
    have:=HIt.out w4.heap.size gn cn w2.heap.size (z:Int) W hW (HK.out _ (List.mem_cons_self ..));rwa [hS,hz2]at this
   have HC2:Hid (bd L m' (z2:Int) (nL:Int)):=by
    show bd L m' (z2:Int) (nL:Int);rw[←hz2];exact hm2
   have HE2:Hid (∀W,aD W a L→ah 16 #[.slice a nL cap,.int .i64 z] W (aA (.int .i64 z2) W)):=fun W hW=>by
    have:=HEn.out z W hW (by omega);rwa [hz2]at this
   have hzz:z<z2:=by omega
   have hze2:z2≤nL:=by omega
   clear hS hz2 hzu hz0 hm2 hq HK HD HCz HEn HMo HIt;go_wp2_with fail;refine(HCI.out _ HM2.out).mono ?_;rintro r v3 ⟨g3,n3,c3,rfl,hO3,hbu3,hM3⟩;have hBu3:=hBu1.trans hbu3;have hS3:=aG.sl hO3;have hO4:=wB HO2.out hbu3 hcz;have hz3:=hBu3.2.2.2.1;have HM4:=aj hM3;clear hM3 hbu3 hO3 hBu1 HO2 HM2 HCI;go_wp2_with (at_builtin;refine jc _ rfl _ _ rfl rfl rfl hO4 hS3 hDl hz3 ?_)
   intro g6 c6 v5 hO5 hb5;have HM5:Hid (Mb w4.heap.size gn cn w2.heap.size nL v5 a L X (aX (aL L) (z2:Int))):=HMb.out.R HM4.out hBu3 hb5;have hBu5:=oM hBu3 hb5;have HO5:=aj hO5;clear hO5 hb5 HM4 hO4 hS3 hz3 hBu3;obtain⟨n6,hn6⟩:∃n6,n5+S.length=n6:=⟨_,rfl⟩;rw[hn6]at HO5 ⊢;go_wp2_with fail;refine(HE2.out _ HM5.out.arg.arg).mono ?_;rintro r v6 ⟨rfl,hb6⟩;have HM6:Hid (Mb w4.heap.size gn cn w2.heap.size nL v6 a L X (aX (aL L) (z2:Int))):=HM5.out.call hb6;have HO6:Hid (aG v6 wb.heap.size g6 n6 c6 (D++S)):=bO HO5.out hb6;have hBu6:=hBu5.trans (az.j (c:=w4.heap.size) hb6);clear HM5 HO5 hBu5 hb6;go_wp2;go_roundw
   case rel=>exact⟨m',g6,n6,c6,z2,D++S,by go_num,by go_num,HC2.out,HK2.out,HD2.out,HO6.out,HM6.out,hBu6⟩
   case measure=>simp[intOf];omega
theorem Ox(a:Option Addr)(cap:Nat)(L:af)(w:World)(h:aD w a L)(hL:L.length≤1048576) :
  ah 5 #[.slice a L.length cap] w (kf (gQ L) w):=by
 have fin:∀(e:Ending) (w':World),(∃g n cp,e=.returned (.slice (some ⟨g,0,none⟩) n cp)∧aG w' w.heap.size g n cp (gQ L)∧ai w w')→∃v,e=.returned v∧a8 w' w.heap.size v (gQ L)∧ai w w':=by
  rintro e w' ⟨g,n,cp,rfl,hO,hb⟩;have hn:n=(gQ L).length:=by
   have:=hO.1;simpa using this.symm
  subst hn;exact⟨_,rfl,⟨hO,fun h=>by cases h⟩,hb⟩
 cases hs:iO L
 ·refine Calls.mono ?_ fin;have HC:Hid (gQ L=[]):=xH hs;rw[HC.out];have HSC:Hid (ah 11 #[.slice a L.length cap] w (aA (.bool false) w)):=by
   have:=CZ a cap L w h hL;rwa [hs]at this
  clear hs HC fin;go_enter func5,ntmps5;go_wp2_with fail;refine HSC.out.mono ?_;rintro e w1 ⟨rfl,hb1⟩;have hN:=od w1 w.heap.size hb1.size;have hB2:=hb1.trans ((ay (Below.refl w1.heap.size w1) (.cells #[] 9)).mono hb1.size);go_wp2;go_ret;exact⟨_,_,_,rfl,hN,hB2⟩
 ·exact(Oy a cap L w h hL hs).mono fin
theorem OA(L:af):(gQ L).length≤2000:=by
 cases hs:iO L
 ·rw[xH hs];exact Nat.zero_le _
 ·rw[xG hs];split
  ·rename_i hp;exact gy hp
  ·exact Nat.zero_le _
end Go.Proofs.YtdojfommmpnbgaaGreatDoor
namespace Go.Proofs.YtdojfommmpnbgaaGreatDoor
open Go.RowKit Go.Proofs.Tryz
set_option maxRecDepth 100000 in
set_option maxHeartbeats 4000000 in
theorem Hw(a:Option Addr)(cap:Nat)(L:af)(w:World)(ht:dj w)(h:aD w a L)(hL:L.length≤maxLen) :
  ah 3 #[.slice a L.length cap] w (aA (.bool true) w):=by
 go_enter func3,ntmps3;go_wp2_with fail;refine(Ni a cap L _ h hL).mono ?_;rintro e w1 ⟨x,rfl,hx,hb1⟩;by_cases hneg:x<0
 ·go_wp2;go_ret;exact⟨rfl,hb1⟩
 obtain⟨hL2,hR2⟩:=hx (by omega);have hm:∀i (h:i<L.length),L[i].size≤maxLen:=fun i hi=>by
  obtain⟨_,_,_,_,_,hm⟩:=h i hi;exact hm
 clear hR2;go_wp2_with fail;refine(tO a cap L _ (h.call hb1) hL2).mono ?_;rintro e w2 ⟨rfl,hr2,hb2⟩;have hB2:=aw hb1 hb2;go_wp2_with fail;refine(Ox _ _ L _ (hr2.arg hm) hL2).mono ?_;rintro e w3 ⟨v1,rfl,hO1,hb3⟩;have hXl:=OA L;have HU:Hid (∀W,dj W→∀b,aD W b L→∀cb,ah 7 #[.slice b L.length cb] W fun e w'=>∃g n cp,e=.returned (.slice (some ⟨g,0,none⟩) n cp)∧n=(gQ L).length∧aG w' W.heap.size g n cp (gQ L)∧ai W w'):=fun W hT b hA cb=>Ov b cb L W hT hA hL2
 generalize gQ L=X at hO1 HU hXl;have hB3:=aw hB2 hb3;obtain⟨g1,c1,rfl,hG1⟩:=hO1.own;have hr1:=hG1.row.1;have hz1:=hr1.1;clear hO1 hG1 hr2;go_wp2_with fail;refine(tO a cap L _ (h.call hB3) hL2).mono ?_;rintro e w4 ⟨rfl,hr4,hb4⟩;have hB4:=aw hB3 hb4;replace hr1:=hr1.call hb4;have hz4:=hr4.1;have hwz:w.heap.size≤w3.heap.size:=hB3.size;obtain⟨g4,hg4⟩:∃g4,g4=w3.heap.size:=⟨_,rfl⟩;rw[←hg4]at hr4 hz1 hz4 hwz ⊢;clear hb1 hb2 hb3 hB2 hB3 hb4 hg4;go_wp2_with fail;refine(HU.out _ (ig ht hB4) _ (hr4.arg hm) _).mono ?_;rintro e w5 ⟨g5,n5,c5,rfl,hn5,hG5,hb5⟩;subst hn5;obtain⟨hr5,hg5⟩:=hG5.row;have hB5:=aw hB4 hb5;replace hr1:=hr1.call hb5;replace hr4:=hr4.call hb5;have hzw:w.heap.size≤g5:=by omega
 have n14:g1≠g4:=by omega
 have n54:g5≠g4:=by omega
 have n15:g1≠g5:=by omega
 clear hG5 hB4 hb5;go_wp2_with fail;refine(uP 0 0 _ _ _ _ (pg hr5) (pg hr1) (by omega)).mono ?_;rintro e w6 ⟨rfl,hb6⟩;replace hr1:=hr1.call hb6;replace hr4:=hr4.call hb6;replace hr5:=hr5.call hb6;have hB6:=aw hB5 hb6;clear hb6 hB5;go_wp2_with fail;refine(tO a cap L _ (h.call hB6) hL2).mono ?_;rintro e w7 ⟨rfl,hr7,hb7⟩;replace hr1:=hr1.call hb7;replace hr4:=hr4.call hb7;replace hr5:=hr5.call hb7;have hB7:=aw hB6 hb7;clear hb7 hB6;go_wp2_with fail;refine(Fc _ _ _ _ L _ (hr4.arg hm) (hr7.arg hm) hL2).mono ?_;rintro e w8 ⟨rfl,hb8⟩;replace hr1:=hr1.call hb8;replace hr4:=hr4.call hb8;replace hr5:=hr5.call hb8;have hB8:=aw hB7 hb8;clear hb8 hB7 hr7;go_wp2_with fail;refine(Bu g4 _ L _ hr4 hL2).mono ?_;rintro e w9 ⟨rfl,hb9,_⟩;replace hr1:=hr1.but hb9 n14;replace hr5:=hr5.but hb9 n54;have hB9:=az.below hB8 hwz hb9;clear hb9 hB8 hr4;go_wp2_with fail;refine(uP 0 0 _ _ _ _ (pg hr5) (pg hr1) (by omega)).mono ?_;rintro e w10 ⟨rfl,hb10⟩;replace hr1:=hr1.call hb10;replace hr5:=hr5.call hb10;have hB10:=aw hB9 hb10;clear hb10 hB9;go_wp2_with fail;refine(Bu g5 _ _ _ hr5 (by omega)).mono ?_;rintro e w11 ⟨rfl,hb11,hr11⟩;replace hr1:=hr1.but hb11 n15;have hB11:=az.below hB10 hzw hb11;clear hb11 hB10 hr5;go_wp2_with fail;refine(Al g5 _ _ _ hr11 (by omega)).mono ?_;rintro e w11b ⟨rfl,hb11b⟩;replace hr1:=hr1.call hb11b;replace hr11:=hr11.call hb11b;have hB11b:=aw hB11 hb11b;clear hb11b hB11;go_wp2_with fail;refine(tO a cap L _ (h.call hB11b) hL2).mono ?_;rintro e w12 ⟨rfl,hr12,hb12⟩;replace hr1:=hr1.call hb12;replace hr11:=hr11.call hb12;have hB12:=aw hB11b hb12;clear hb12 hB11b;go_wp2_with fail;refine(HU.out _ (ig ht hB12) _ (hr12.arg hm) _).mono ?_;rintro e w13 ⟨gD,nD,cD,rfl,hnD,hGD,hb13⟩;subst hnD;have hr13:=hGD.row.1;replace hr1:=hr1.call hb13;replace hr11:=hr11.call hb13;have hB13:=aw hB12 hb13;clear hb13 hB12 hGD hr12;go_wp2_with fail;refine(uP 0 0 _ _ _ _ (pg hr13) (pg hr1) (by omega)).mono ?_;rintro e w14 ⟨rfl,hb14⟩;replace hr11:=hr11.call hb14;have hB14:=aw hB13 hb14;clear hb14 hB13 hr1 hr13;go_wp2_with fail;refine(Al g5 _ _ _ hr11 (by omega)).mono ?_;rintro e w15 ⟨rfl,hb15⟩;have hB15:=aw hB14 hb15;clear hb15 hB14 hr11;go_wp2;go_ret;exact⟨rfl,hB15⟩
end Go.Proofs.YtdojfommmpnbgaaGreatDoor
