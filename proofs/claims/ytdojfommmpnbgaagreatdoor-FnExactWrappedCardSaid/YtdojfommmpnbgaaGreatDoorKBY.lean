import Derived.Test.YtdojfommmpnbgaaGreatDoorKBW
set_option maxHeartbeats 4000000
namespace Go.Proofs.YtdojfommmpnbgaaGreatDoor
open Go.RowKit
theorem ry(f:Int→Int)(hf:∀p,0≤f p):∀(n:Nat) (i:Int) (X:List Int),X.Pairwise (·<·)→(∀x∈X,i≤x∧x<i+(n:Int)∧1≤f x)→(X.length:Int)≤fp f n i
 |0,i,[],_,_=>by simp[fp]
 |0,i,x::X,_,h=>by have:=h x (List.mem_cons_self ..);omega
 |n+1,i,[],_,_=>by
  have h1:=ry f hf n (i+1) [] List.Pairwise.nil (fun x hx=>by cases hx);have h2:=hf i;show(0:Int)≤f i+fp f n (i+1);simp at h1;omega
 |n+1,i,x::X,hp,h=>by
  obtain⟨h1,h2⟩:=List.pairwise_cons.1 hp;obtain⟨a1,a2,a3⟩:=h x (List.mem_cons_self ..);have h3:=hf i;show((X.length+1:Nat):Int)≤f i+fp f n (i+1);by_cases hx:x=i
  ·subst hx;have:=ry f hf n (x+1) X h2 fun y hy=>by
    obtain⟨b1,b2,b3⟩:=h y (List.mem_cons_of_mem _ hy);have:=h1 y hy;exact⟨by omega,by omega,b3⟩
   omega
  ·have:=ry f hf n (i+1) (x::X) hp fun y hy=>by
    obtain⟨b1,b2,b3⟩:=h y hy;refine⟨?_,by omega,b3⟩;rcases List.mem_cons.1 hy with rfl|hy
    ·omega
    ·have:=h1 y hy;omega
   rw[List.length_cons]at this
   omega
theorem II{L:af}{D:Int→Bool}{p:Int}(h:fI L D p=true):iK L p=true:=by
 by_cases hc:np L D p
 ·obtain⟨q,a,b,c⟩:=hc;exact sY ⟨q,a,b,fun q' a' b'=>c q' a' (by rw[b'];rfl)⟩
 ·rw[pv hc]at h;cases h
theorem EZ{L:af}(hp:aR L=true):(aL L).length≤(kQ L).toNat:=by
 have h:((aL L).length:Int)≤kQ L:=by
  unfold kQ;refine ry _ (fun p=>?_) _ _ _ (qp L) fun x hx=>?_
  ·unfold gG;split
   ·exact(qE _ p).1
   ·exact Int.le_refl _
  ·have hd:cr L x=true:=by
    obtain⟨s,hs,e⟩:=List.mem_map.mp hx;exact(mq L x).2 ⟨s,hs,e⟩
   obtain⟨d1,d2,d3⟩:=(zG hp).1 hd
   have ho:=bF (eM d1).1
   refine⟨ho.1,by omega,?_⟩
   unfold gG gF
   rw[d1,II d3,d2]
   decide
 omega
section
variable {L:af} {i e k:Int} {m:Nat} {b:Bool}
theorem G4(hp:aR L=true)(ho:ae (aa L i) [40]=true)(hc:bd L m (i+1) e)(he0:0≤e)(hit:ag L i=e+1)(hk:k∈ar L m (i+1))(hD:cr L i=false)(hb:b=fI L (cr L) i∨Calm L i):dK L i k b=fI L (cr L) k∨Calm L k:=by
 unfold dK;cases hf:dt L i
 ·rw[if_neg (by decide)];cases hl:dS L i
  ·rw[if_neg (by decide),IF ho hc he0 hit hk (by rw[hf,hD];rfl) hl];exact hb.imp id fun hcm=>yr ho hc he0 hit hk hcm hf
  ·rw[if_pos rfl,IG ho hc he0 hit hk (by rw[hf,hD];rfl) hl];by_cases hz:ag L k=e
   ·left;rw[hz,hit];simp
   ·right;exact Cr hp i m e ho hl hc he0 hit k hk hz
 ·rw[if_pos rfl];left;refine(Bg ho hc he0 hit hk (by rw[hf];rfl) ?_).symm;unfold dS;unfold dt at hf;rw[aQ hf (by decide),aQ hf (by decide)];rfl
theorem E6(hd:cr L i=true)(hc:bd L m (i+2) e)(he0:0≤e)(hel:e<(L.length:Int))(hit:ag L i=e+1)(hk:k∈ar L m (i+2)):dK L i k false=fI L (cr L) k∨Calm L k:=by
 obtain⟨o1,o2⟩:=eM (kn hd);have hce:=bK m _ hc he0;have ho:=bF o1;have h1:ag L (i+1)=i+1+1:=gw (by omega) (by omega) ⟨aQ o2 (by decide),aQ o2 (by decide)⟩;have h2:i+1+1=i+2:=by omega
 have hc1:bd L (m+1) (i+1) e:=⟨by rw[h1];omega,by rw[h1,h2];exact hc⟩;have hk1:k∈ar L (m+1) (i+1):=by
  show k∈(i+1)::ar L m (ag L (i+1));rw[h1,h2];exact List.mem_cons_of_mem _ hk
 have hlo:dS L i=false:=by
  unfold dS;rw[aQ o2 (by decide),aQ o2 (by decide)];rfl
 left;rw[Bg o1 hc1 he0 hit hk1 (by rw[hd,Bool.or_true]) hlo];unfold dK;rw[hlo];split<;>rfl
theorem E5(hp:aR L=true)(h0:0≤ag L i)(hb:b=fI L (cr L) i∨Calm L i):(b&&(bU L i&&fG L i.toNat))=cr L i:=by
 have hu:=cZ h0;rw[Bool.eq_iff_iff,Bool.and_eq_true,Bool.and_eq_true,zG hp];rcases hb with rfl|hcm
 ·exact⟨fun ⟨a,b,c⟩=>⟨b,c,a⟩,fun ⟨a,b,c⟩=>⟨c,a,b⟩⟩
 ·have hno:bU L i=true→False:=fun hd=>by
   obtain⟨q,a,b,_⟩:=hcm i (Int.le_refl _) hu.2.1 (eM hd).1 (eM hd).2;omega
  exact⟨fun ⟨_,b,_⟩=>(hno b).elim,fun ⟨a,_,_⟩=>(hno a).elim⟩
end
theorem qi{L:af}{p:Int}(h:cr L p=false):aX (aL L) (p+1)=aX (aL L) p:=by
 rw[uz (aL L) p (qp L)];rw[if_neg (fun hc=>?_)]
 ·rfl
 ·obtain⟨y,hy,he⟩:=List.any_eq_true.1 hc;rw[beq_iff_eq]at he;subst he;obtain⟨s,hs,e⟩:=List.mem_map.mp hy;rw[(mq L p).2 ⟨s,hs,e⟩]at h;cases h
theorem Eu{L:af}{p:Int}(h:cr L p=true):aX (aL L) (p+1)=aX (aL L) p+1:=by
 rw[uz (aL L) p (qp L),if_pos (List.any_eq_true.2 ⟨p,uK h,by simp⟩)]
theorem sx{L:af}{p:Int}(h:ae (aa L p) [40]=false):cr L p=false:=by
 cases hc:cr L p
 ·rfl
 ·rw[(eM (kn hc)).1]at h;cases h
end Go.Proofs.YtdojfommmpnbgaaGreatDoor
namespace Go.Proofs.YtdojfommmpnbgaaGreatDoor
open Go.RowKit Go.Shelf Go.Proofs.Tryz
attribute [local go_sem] Oper.semAt_some
set_option maxRecDepth 100000 in
set_option maxHeartbeats 4000000 in
theorem CW{a ad:Option Addr}{cap cd gf off cf:Nat}{L:af}{n:Nat}(hp:aR L=true)(hsg:bQ L=true)
  (hWr:∀(d:Nat) (W:World),cr L (d:Int)=true→(ag L (d:Int)-d).toNat≤n→ny W a ad gf off L→ah 43 #[.agg #[.slice a L.length cap,.slice ad (aL L).length cd,.slice (some ⟨gf,off,none⟩) (aL L).length cf],.int .i64 d,.string (ji L (d:Int))] W fun e w'=>∃g n' cp,e=.returned (.slice (some ⟨g,0,none⟩) n' cp)∧aG w' W.heap.size g n' cp (wV L 0 (d:Int))∧ai W w') :
  ue a ad cap cd gf off cf L n:=by
 intro m f t w h hc ht0 htl hn;have hL:=gy hp;have hG:=qa h.arg hsg;have hce:=bK m _ hc ht0;obtain⟨i0,rfl⟩:∃k:Nat,f=(k:Int):=⟨f.toNat,by omega⟩;obtain⟨q,rfl⟩:∃k:Nat,t=(k:Int):=⟨t.toNat,by omega⟩;obtain⟨Y,hY⟩:∃Y,(ar L m (i0:Int)).flatMap (wV L 0)=Y:=⟨_,rfl⟩;have hYl:Y.length≤128000:=by
  rw[←hY];have:=(lg (wV L 0) m _ hc ht0 fun p hpm=>nh hp hG 0 p (fQ m _ hc ht0 p hpm).2.2.1 (Or.inl rfl)).2.1;omega
 have HY0:Hid (Sy L (cr L) (wV L 0) (i0:Int) (q:Int) Y):=by
  show Sy L (cr L) (wV L 0) (i0:Int) (q:Int) Y;rw[←hY];exact Na hp hc ht0
 rw[hY];have HA:Hid (∀W,ai w W→ny W a ad gf off L):=fun W hW=>h.call hW
 have HSe:Hid (∀(p:Nat) (W:World),ai w W→ah 42 #[.slice ad (aL L).length cd,.int .i64 p] W (aA (.tuple #[.int .i64 (aX (aL L) (p:Int):Int),.bool (cr L (p:Int))]) W)):=fun p W hW=>by
  have:=LX ad cd (aL L) (p:Int) W (h.num.call hW) (by have:=uL L;omega) (qp L);rwa [DS]at this
 have HIt:Hid (∀(p:Nat) (W:World),ai w W→ah 44 #[.slice a L.length cap,.int .i64 p] W (aA (.int .i64 (ag L p)) W)):=fun p W hW=>nO a cap L (p:Int) W (h.arg.call hW) (by omega) hsg
 have HFr:Hid (∀(p:Nat) (W:World),ai w W→cr L (p:Int)=true→aX (aL L) (p:Int)<(aL L).length∧W.cell? ⟨gf,off+aX (aL L) (p:Int),none⟩=some (.string (ji L (p:Int)))):=fun p W hW hd=>by
  obtain⟨h1,_,h3⟩:=zD hL hd (aL L).length (Nat.le_refl _);obtain⟨h4,h5⟩:=List.getElem?_eq_some_iff.1 h3;refine⟨h1,?_⟩;rw[←h5];exact(h.frs.call hW).2 _ h4
 have HCe:Hid (∀(p:Nat) (W:World),ai w W→p<L.length→∃g o,a=some ⟨g,o,none⟩∧g<w.heap.size∧W.cell? ⟨g,o+p,none⟩=some (.string (aa L p))):=fun p W hW hpl=>by
  obtain⟨g,o,h1,h2,h3,_⟩:=h.arg p hpl;refine⟨g,o,h1,h2,?_⟩;rw[(hW.cell (p:=⟨g,o+p,none⟩) h2)];rw[show aa L (p:Int)=L[p]from by simp[aa,hpl]];exact h3
 have HW:=aj hWr;have hgf:=h.frs.1;obtain⟨nX,hnX⟩:∃nX,(aL L).length=nX:=⟨_,rfl⟩;obtain⟨nL,hnL⟩:∃nL,L.length=nL:=⟨_,rfl⟩;rw[hnX,hnL]at HW ⊢;rw[hnX]at HSe HFr;rw[hnL]at HIt HCe htl hL;have hbA:=ay (Below.refl w.heap.size w) (.cells #[.slice a nL cap,.slice ad nX cd,.slice (some ⟨gf,off,none⟩) nX cf] 41);have hT0:iG w (.slice a nL cap) (.slice ad nX cd) (.slice (some ⟨gf,off,none⟩) nX cf) (w.alloc (.cells #[.slice a nL cap,.slice ad nX cd,.slice (some ⟨gf,off,none⟩) nX cf] 41)) :=
  ⟨by simp[go_sem],by simp[go_sem],by simp[go_sem],by simp,hbA⟩
 obtain⟨w0,hw0⟩:∃w0,w0=w.alloc (.cells #[.slice a nL cap,.slice ad nX cd,.slice (some ⟨gf,off,none⟩) nX cf] 41):=⟨_,rfl⟩;rw[←hw0]at hT0;have hz0:w0.heap.size=w.heap.size+1:=by rw[hw0,World.size_alloc]
 have hT1:iG w (.slice a nL cap) (.slice ad nX cd) (.slice (some ⟨gf,off,none⟩) nX cf) (w0.alloc (.cells #[] 9)):=hT0.call (ay (Below.refl _ _) _);have hO0:aG (w0.alloc (.cells #[] 9)) (w.heap.size+1) (w.heap.size+1) 0 0 []:=by
  rw[←hz0];exact World.ownsRow_made w0 #[] 0 (Nat.le_refl _) (Nat.zero_le _) rfl
 clear hY h hWr hc hnX hnL hbA hT0;go_enter func23,ntmps23;go_wp2;rw[←hw0];clear hz0 hw0;go_loopw [7,8,9,10] (fun v7 v8 _ _ wr=>∃(g n' c p:Nat) (D Z:af),v8=.int .i64 (p:Int)∧v7=.slice (some ⟨g,0,none⟩) n' c∧i0≤p∧p≤q∧Hid (Sy L (cr L) (wV L 0) (p:Int) (q:Int) Z)∧Hid (D++Z=Y)∧Hid (aG wr (w.heap.size+1) g n' c D)∧iG w (.slice a nL cap) (.slice ad nX cd) (.slice (some ⟨gf,off,none⟩) nX cf) wr) (fun _ v8 _ _ _=>q-(intOf v8).toNat)
 case atStart=>exact⟨_,0,0,i0,[],Y,rfl,rfl,Nat.le_refl _,by omega,HY0.out,rfl,hO0,hT1⟩
 case round =>
  clear hO0 hT1 HY0;obtain⟨g,n',c,p,D,Z,rfl,rfl,hip,hpq,HR,HD,HOw,hH⟩:=hrel;have hc0:=hH.c0;have hc1:=hH.c1;have hc2:=hH.c2;by_cases hlt:p<q
  ·have hlti:(p:Int)<(q:Int):=by omega
   have hbel:=hH.bel;go_wp2_with fail;refine(HSe.out p _ hbel).mono ?_;rintro e w1 ⟨rfl,hb1⟩;cases hd:cr L (p:Int)
   ·have hH1:=hH.call hb1;have HO1:Hid (aG w1 (w.heap.size+1) g n' c D):=bO HOw.out hb1;obtain⟨Z',hZ,hR'⟩:=Ng HR.out (by omega) hd;have HR2:Hid (Sy L (cr L) (wV L 0) ((p+1:Nat):Int) (q:Int) Z'):=by
     show Sy L (cr L) (wV L 0) ((p+1:Nat):Int) (q:Int) Z';rw[Int.natCast_add];exact hR'
    have HD2:Hid ((D++[aa L p])++Z'=Y):=by
     show(D++[aa L p])++Z'=Y;rw[List.append_assoc,←HD.out,hZ];rfl
    obtain⟨ga,oa,ea,hga,hca⟩:=HCe.out p w1 hH1.bel (by omega);subst ea;obtain⟨s,hs⟩:∃s,aa L (p:Int)=s:=⟨_,rfl⟩;rw[hs]at hca HD2;have hDl:D.length+[s].length≤400000:=by
     have:=congrArg List.length HD2.out;simp at this ⊢;omega
    have hS:=dM w1 [s] 9;have hbA:=ay (Below.refl w1.heap.size w1) (.cells #[.string s] 9);have hHA:=hH1.call hbA;have hOA:=bO HO1.out hbA;have hlt1:=hHA.lt;clear hH HO1 HOw HR HD hZ hR' hbA hc0 hc1 hc2 hs hd;have hc0:=hH1.c0;have hc1:=hH1.c1;have hc2:=hH1.c2;go_wp2_with (at_builtin;refine jc _ rfl _ _ rfl rfl rfl hOA hS hDl hlt1 ?_)
    intro g2 c2 w2 hO2 hb2;have hH2:=hHA.own hb2;have HO2:=aj hO2;clear hO2 hb2 hHA hOA hS hH1 hc0 hc1 hc2 hlt1 hca;go_wp2;go_roundw
    case rel=>exact⟨g2,n'+1,c2,p+1,D++[s],Z',by go_num,by go_num,by omega,by omega,HR2.out,HD2.out,HO2.out,hH2⟩
    case measure=>simp[intOf];omega
   ·have hH1:=hH.call hb1;have HO1:Hid (aG w1 (w.heap.size+1) g n' c D):=bO HOw.out hb1;obtain⟨Z',hZ,hR'⟩:=Nh HR.out (by omega) hd;obtain⟨_,e9,_,_,hel,_,hde,hie,_⟩:=su hp hG hd;have hqe:=Nd hR';obtain⟨r,hr⟩:∃r:Nat,ag L (p:Int)=(r:Int):=⟨(ag L p).toNat,by omega⟩;have hpr:p<r:=by omega
    have hrq:r≤q:=by omega
    obtain⟨S,hS⟩:∃S,wV L 0 (p:Int)=S:=⟨_,rfl⟩;have HR2:Hid (Sy L (cr L) (wV L 0) (r:Int) (q:Int) Z'):=by
     show Sy L (cr L) (wV L 0) (r:Int) (q:Int) Z';rw[←hr];exact hR'
    have HD2:Hid ((D++S)++Z'=Y):=by
     show(D++S)++Z'=Y;rw[List.append_assoc,←HD.out,hZ,hS]
    have hDl:D.length+S.length≤400000:=by
     have:=congrArg List.length HD2.out;simp at this;omega
    obtain⟨hkx,hfr⟩:=HFr.out p w1 hH1.bel hd;obtain⟨f,hf⟩:∃f,ji L (p:Int)=f:=⟨_,rfl⟩;obtain⟨k,hk⟩:∃k,aX (aL L) (p:Int)=k:=⟨_,rfl⟩;have HWd:Hid (∀W,ai w W→ah 43 #[.agg #[.slice a nL cap,.slice ad nX cd,.slice (some ⟨gf,off,none⟩) nX cf],.int .i64 p,.string f] W fun e w'=>∃g n' cp,e=.returned (.slice (some ⟨g,0,none⟩) n' cp)∧aG w' W.heap.size g n' cp S∧ai W w'):=fun W hW=>by
     have:=HW.out p W hd (by omega) (HA.out W hW);rwa [hf,hS]at this
    have HIp:Hid (∀W,ai w W→ah 44 #[.slice a nL cap,.int .i64 p] W (aA (.int .i64 r) W)):=fun W hW=>by
     have:=HIt.out p W hW;rwa [hr]at this
    rw[hk]at hkx hfr;rw[hf]at hfr;obtain⟨ga,oa,ea,_⟩:=HCe.out p w1 hH1.bel (by omega);subst ea;rw[hk];clear hH HOw HR HD hZ hR' hc0 hc1 hc2 hd hf hk hS hr hqe hel hde hie HFr HW HIt HCe HSe HA hb1 hbel;go_upto_region 6 with fail;refine wp_region_any (by kernel_rfl) ?_;refine tY (fun l A y=>∃b0 b1 b2 b3 b4 b5 b6 b7 b8 b9 b10 x7 x24 x25 x26 x27 x28 x29 x30 x31 x32 x33,l=#[b0,b1,b2,b3,b4,b5,b6,b7,b8,b9,b10]∧A={ tmps:=#[.agg #[.slice (some ⟨ga,oa,none⟩) nL cap,.slice ad nX cd,.slice (some ⟨gf,off,none⟩) nX cf],.int .i64 i0,.int .i64 q,.pointer (some ⟨w.heap.size,0,none⟩),undef,undef,.slice none 0 0,x7,.int .i64 p,.int .i64 k,.bool true,.slice (some ⟨w.heap.size+1,0,none⟩) 0 0,.int .i64 i0,.int .i64 p,.int .i64 q,.bool true,.tuple #[.int .i64 k,.bool true],.pointer (some ⟨w.heap.size,1,none⟩),.slice ad nX cd,.int .i64 p,.tuple #[.int .i64 k,.bool true],.int .i64 k,.bool true,.bool true,x24,x25,x26,x27,x28,x29,x30,x31,x32,x33,u34,u35,u36,u37,u38,u39,u40,u41,u42,u43,u44,u45,u46,u47,undef],defers:=[] }∧rU w (.slice (some ⟨ga,oa,none⟩) nL cap) (.slice ad nX cd) gf off nX cf p k f g n' c D S b0 b1 b2 b3 b4 b5 b6 b7 b8 b9 b10 x7 x24 x25 x26 x27 x28 x29 x30 x31 x32 x33 y) ?_ ?_ _ _ _ _ ?_ ?_
    ·rintro l A y i ⟨b0,b1,b2,b3,b4,b5,b6,b7,b8,b9,b10,x7,x24,x25,x26,x27,x28,x29,x30,x31,x32,x33,rfl,rfl,hF⟩ hi;obtain⟨h1,o,ho,h2⟩:=mem_ready.1 hi;have hi11:i<11:=by
      rcases Nat.lt_or_ge i 11 with h'|h'
      ·exact h'
      ·rw[Array.getElem?_eq_none (by simpa using h')]at ho;cases ho
     clear hi;obtain rfl|rfl|rfl|rfl|rfl|rfl|rfl|rfl|rfl|rfl|rfl:i=0∨i=1∨i=2∨i=3∨i=4∨i=5∨i=6∨i=7∨i=8∨i=9∨i=10:=by omega
     all_goals (simp at ho;subst ho;simp[Region.binds]at h1 h2)
     all_goals refine wpOp_step rfl (fun K hK=>?_)
     all_goals have hc0:=hF.hh.c0
     all_goals have hc1:=hF.hh.c1
     all_goals have hc2:=hF.hh.c2
     all_goals have hfr:=hF.fr
     ·have e10:b10=false:=by
       cases hq:b10 with
       |false=>rfl
       |true=>have:=hF.o9 (hF.o10 hq);rw[h1]at this;cases this
      have e7:=hF.o0 e10
      subst e7
      go_simp
      refine hK _ _ ⟨true,b1,b2,b3,b4,b5,b6,b7,b8,b9,b10,_,_,_,_,_,_,_,_,_,_,_,rfl,rfl,{ hF with f0:=fun _=>rfl,o9:=fun _=>rfl }⟩
     ·go_simp;refine hK _ _ ⟨b0,true,b2,b3,b4,b5,b6,b7,b8,b9,b10,_,_,_,_,_,_,_,_,_,_,_,rfl,rfl,{ hF with f1:=fun _=>rfl }⟩
     ·go_simp;refine hK _ _ ⟨b0,b1,true,b3,b4,b5,b6,b7,b8,b9,b10,_,_,_,_,_,_,_,_,_,_,_,rfl,rfl,{ hF with f2:=fun _=>rfl }⟩
     ·go_simp;refine hK _ _ ⟨b0,b1,b2,true,b4,b5,b6,b7,b8,b9,b10,_,_,_,_,_,_,_,_,_,_,_,rfl,rfl,{ hF with f3:=fun _=>rfl }⟩
     ·have e:=hF.f3 h2;subst e;go_simp;refine hK _ _ ⟨b0,b1,b2,b3,true,b5,b6,b7,b8,b9,b10,_,_,_,_,_,_,_,_,_,_,_,rfl,rfl,{ hF with f4:=fun _=>rfl }⟩
     ·go_simp;refine hK _ _ ⟨b0,b1,b2,b3,b4,true,b6,b7,b8,b9,b10,_,_,_,_,_,_,_,_,_,_,_,rfl,rfl,{ hF with f5:=fun _=>rfl }⟩
     ·have e4:=hF.f4 h2.1;have e5:=hF.f5 h2.2;subst e4 e5;go_simp;refine hK _ _ ⟨b0,b1,b2,b3,b4,b5,true,b7,b8,b9,b10,_,_,_,_,_,_,_,_,_,_,_,rfl,rfl,{ hF with f6:=fun _=>rfl }⟩
     ·have e:=hF.f6 h2;subst e;go_simp;refine hK _ _ ⟨b0,b1,b2,b3,b4,b5,b6,true,b8,b9,b10,_,_,_,_,_,_,_,_,_,_,_,rfl,rfl,{ hF with f7:=fun _=>rfl }⟩
     ·have e1:b1=true:=by clear hK hF HWd HIp HR2 HD2;simp_all
      have e2:b2=true:=by clear hK hF HWd HIp HR2 HD2;simp_all
      have e7:b7=true:=by clear hK hF HWd HIp HR2 HD2;simp_all
      have k1:=hF.f1 e1;have k2:=hF.f2 e2;have k7:=hF.f7 e7;subst k1 k2 k7;go_simp;refine(HWd.out _ hF.hh.bel).mono ?_;rintro e y1 ⟨g3,n3,c3,rfl,hO,hb⟩;refine hK _ _ ⟨b0,b1,b2,b3,b4,b5,b6,b7,true,b9,b10,_,_,_,_,_,_,_,_,_,_,_,rfl,rfl,{ hF.grow hgf hb with f8:=fun _ _=>aG.sl hO }⟩
     ·have e0:b0=true:=by clear hK hF HWd HIp HR2 HD2;simp_all
      have e8:b8=true:=by clear hK hF HWd HIp HR2 HD2;simp_all
      have k0:=hF.f0 e0;subst k0;refine B5 _ _ rfl rfl rfl (hF.own h1) (hF.f8 e8 h1) hDl hF.hh.lt ?_;intro g6 c6 y1 hO6 hb6;refine hK _ _ ⟨b0,b1,b2,b3,b4,b5,b6,b7,b8,true,b10,_,_,_,_,_,_,_,_,_,_,_,rfl,rfl,{ hF with hh:=hF.hh.own hb6,fr:=(hb6.cell (p:=⟨gf,off+k,none⟩) (Nat.lt_succ_of_lt hgf)).trans hF.fr,own:=nofun,f8:=fun _ hc=>(by cases hc),f9:=fun _=>⟨g6,c6,rfl,hO6⟩,f10:=fun hc=>absurd (hF.o10 hc) (by rw[h1];decide),o9:=fun _=>e0,o10:=fun _=>rfl }⟩
     ·have e9:b9=true:=by clear hK hF HWd HIp HR2 HD2;simp_all
      go_simp;refine hK _ _ ⟨b0,b1,b2,b3,b4,b5,b6,b7,b8,b9,true,_,_,_,_,_,_,_,_,_,_,_,rfl,rfl,{ hF with f10:=fun _=>rfl,o10:=fun _=>e9,o0:=nofun }⟩
    ·rintro l A y ⟨b0,b1,b2,b3,b4,b5,b6,b7,b8,b9,b10,x7,x24,x25,x26,x27,x28,x29,x30,x31,x32,x33,rfl,rfl,hF⟩ hr;have ht:=CI (by decide) hr;obtain rfl:b9=true:=ht 9 (by decide);obtain rfl:b10=true:=ht 10 (by decide);clear ht hr;obtain⟨g6,c6,rfl,hO6⟩:=hF.f9 rfl;have e7:=hF.f10 rfl;subst e7;have hH2:=hF.hh;have HO6:=aj hO6;clear hF hO6 HWd hH1 HO1;have hc0:=hH2.c0;have hc1:=hH2.c1;have hc2:=hH2.c2;have hbel:=hH2.bel;obtain⟨n6,hn6⟩:∃n6,n'+S.length=n6:=⟨_,rfl⟩;rw[hn6]at HO6 ⊢;go_wp2_with fail;refine(HIp.out _ hbel).mono ?_;rintro e y2 ⟨rfl,hb2⟩;have hH3:=hH2.call hb2;have HO7:Hid (aG y2 (w.heap.size+1) g6 n6 c6 (D++S)):=bO HO6.out hb2;clear hc0 hc1 hc2;go_wp2;go_roundw
     case rel=>exact⟨g6,n6,c6,r,D++S,Z',by go_num,by go_num,by omega,by omega,HR2.out,HD2.out,HO7.out,hH3⟩
     case measure=>simp[intOf];omega
    ·exact⟨false,false,false,false,false,false,false,false,false,false,false,_,_,_,_,_,_,_,_,_,_,_,rfl,rfl,⟨hH1.drew,hfr,fun _=>bO HO1.out (Below.refl _ _).drew,nofun,nofun,nofun,nofun,nofun,nofun,nofun,nofun,nofun,nofun,nofun,nofun,nofun,fun _=>rfl⟩⟩
    ·decide
  ·have hz:=Nf HR.out (by omega);have HE:Hid (aG wr (w.heap.size+1) g n' c Y):=by
    show aG wr (w.heap.size+1) g n' c Y;have e:Y=D:=by rw[←HD.out,hz.2,List.append_nil]
    rw[e];exact HOw.out
   have hlt2:¬(p:Int)<(q:Int):=by omega
   have hbel:=hH.bel;clear hz HR HD HOw hH hc0 hc1 hc2;go_wp2;go_ret;exact⟨g,n',c,rfl,dW HE.out (Nat.le_succ _),hbel⟩
theorem CV{a ad:Option Addr}{cap cd gf off cf:Nat}{L:af}(hp:aR L=true)(hsg:bQ L=true):∀n,ue a ad cap cd gf off cf L n
 |0=>CW hp hsg fun d W hd hn hA=>by
   obtain⟨_,e,_,_,_,_,h1,h2,_⟩:=su hp (qa hA.arg hsg) hd;omega
 |n+1=>CW hp hsg fun d W hd hn hA=>Oz (CV hp hsg n) hp hsg d hd hn W hA
noncomputable def wZ(L:af):af:=(aT L 0).flatMap (wV L 0)
theorem xI{L:af}(hp:aR L=true):∃m,bd L m 0 (L.length:Int)∧wZ L=(ar L m 0).flatMap (wV L 0):=by
 obtain⟨k,hkd⟩:=mX hp;obtain⟨q1,_⟩:=eK k _ hkd;refine⟨k,iv k _ q1,?_⟩;unfold wZ;rw[ef q1 (by omega) (Int.le_refl _) (Or.inl rfl)]
theorem DJ{L:af}(hp:aR L=true)(hG:∀s∈L,Gs s):(wZ L).length≤128000∧∀s∈wZ L,Gs s:=by
 have hL:=gy hp;obtain⟨m,hc,hz⟩:=xI hp;rw[hz];obtain⟨_,h2,h3⟩:=lg (wV L 0) m _ hc (by omega) fun p hpm=>nh hp hG 0 p (fQ m _ hc (by omega) p hpm).2.2.1 (Or.inl rfl)
 exact⟨by omega,h3⟩
theorem xG{L:af}(hs:iO L=true):gQ L=if aR (wZ L)=true then wZ L else []:=by
 unfold gQ wZ;simp[hs]
theorem xH{L:af}(hs:iO L=false):gQ L=[]:=by
 unfold gQ;simp[hs]
theorem B8{w:World}{B g n cp:Nat}{X:af}(h:aG w B g n cp X)(hG:∀s∈X,Gs s):aD w (some ⟨g,0,none⟩) X∧n=X.length:=by
 have hr:=h.row.1;refine⟨fun i hi=>⟨g,0,rfl,hr.1,by rw[Nat.zero_add];exact(hr.2 i hi).1,(hG _ (List.getElem_mem hi)).2⟩,?_⟩;have:=h.1;simpa using this.symm
theorem J0(g n cp B:Nat)(Z:af)(w:World)(ht:dj w)(h:aG w B g n cp Z)(hG:∀s∈Z,Gs s)(hl:Z.length≤128000)(hB:B≤w.heap.size) :
  ah 22 #[.slice (some ⟨g,0,none⟩) n cp] w fun e w'=>∃g' n' cp',e=.returned (.slice (some ⟨g',0,none⟩) n' cp')∧aG w' B g' n' cp' (if aR Z=true then Z else [])∧ai w w':=by
 obtain⟨hA,rfl⟩:=B8 h hG;have HP:Hid (ah 33 #[.slice (some ⟨g,0,none⟩) Z.length cp] w (aA (.bool (aR Z)) w)):=wI _ cp Z w ht hA (by omega);have HO:=aj h;obtain⟨k,hk⟩:∃k,Z.length=k:=⟨_,rfl⟩;clear h hA hG hl;cases hq:aR Z
 ·rw[hq,hk]at HP;rw[hk];go_enter func22,ntmps22;go_wp2_with fail;refine HP.out.mono ?_;rintro e w1 ⟨rfl,hb1⟩;have hN:=od w1 B (Nat.le_trans hB hb1.size);have hB2:=hb1.trans ((ay (Below.refl w1.heap.size w1) (.cells #[] 9)).mono hb1.size);go_wp2;go_ret;exact⟨_,_,_,rfl,hN,hB2⟩
 ·rw[hq,hk]at HP;rw[hk]at HO ⊢;go_enter func22,ntmps22;go_wp2_with fail;refine HP.out.mono ?_;rintro e w1 ⟨rfl,hb1⟩;have hN:=bO HO.out hb1;go_wp2;go_ret;exact⟨_,_,_,rfl,hN,hb1⟩
set_option maxRecDepth 100000 in
theorem Ov(a:Option Addr)(cap:Nat)(L:af)(w:World)(ht:dj w)(h:aD w a L)(hL:L.length≤1048576) :
  ah 7 #[.slice a L.length cap] w fun e w'=>∃g n cp,e=.returned (.slice (some ⟨g,0,none⟩) n cp)∧n=(gQ L).length∧aG w' w.heap.size g n cp (gQ L)∧ai w w':=by
 have HSC:Hid (ah 19 #[.slice a L.length cap] w (aA (.bool (iO L)) w)):=by
  have:=LW a cap L w ht h hL;rw[LV]at this;exact this
 cases hp:iO L
 ·have HC:Hid (gQ L=[]):=xH hp;rw[HC.out];rw[hp]at HSC;clear hp HC;go_enter func7,ntmps7;go_wp2_with fail;refine HSC.out.mono ?_;rintro e w1 ⟨rfl,hb1⟩;have hN:=od w1 w.heap.size hb1.size;have hB2:=hb1.trans ((ay (Below.refl w1.heap.size w1) (.cells #[] 9)).mono hb1.size);go_wp2;go_ret;exact⟨_,_,_,rfl,rfl,hN,hB2⟩
 ·have hpl:=CY hp;have hL2:=gy hpl;have hsg:=rn hpl;have hG:=qa h hsg;obtain⟨hzl,hzG⟩:=DJ hpl hG;have hdl:=uL L;have HC:Hid (gQ L=if aR (wZ L)=true then wZ L else []):=xG hp;have HD:Hid (∀W:World,ai w W→ah 20 #[.slice a L.length cap] W fun e w'=>∃(av:Option Addr) (cv:Nat),e=.returned (.slice av (aL L).length cv)∧kB w' av (aL L)∧ai W w'):=fun W hW=>by
   refine(EV a cap L W (ig ht hW) (h.call hW) hpl).mono ?_;rintro e w' ⟨v,rfl,hO,hb⟩;obtain⟨av,cv,rfl,hN⟩:=bY.num hO;exact⟨av,cv,rfl,hN,hb⟩
  have HF:Hid (∀W:World,ai w W→ah 21 #[.slice a L.length cap,.int .i64 ((aL L).length:Int)] W fun e w'=>∃g cp,e=.returned (.slice (some ⟨g,0,none⟩) (aL L).length cp)∧Tx w' g 0 (bL (bJ L) (aL L).length 0)∧ai W w'):=fun W hW=>by
   have hm:(aL L).length*(L.length+1)≤2000*2001:=Nat.mul_le_mul (by omega) (by omega);refine(FI a cap L (aL L).length W (ig ht hW) (h.call hW) hL (by omega)).mono ?_;rintro e w' ⟨g,n,cp,rfl,hn,hO,hb⟩;rw[oW]at hn;subst hn;have hr:=hO.row.1;exact⟨g,cp,rfl,⟨hr.1,fun i hi=>by rw[Nat.zero_add];exact(hr.2 i hi).1⟩,hb⟩
  have HS:Hid (∀(W:World) (av:Option Addr) (cv g cp:Nat),ai w W→kB W av (aL L)→Tx W g 0 (bL (bJ L) (aL L).length 0)→ah 23 #[.agg #[.slice a L.length cap,.slice av (aL L).length cv,.slice (some ⟨g,0,none⟩) (aL L).length cp],.int .i64 0,.int .i64 (L.length:Int)] W fun e w'=>∃g n' cp,e=.returned (.slice (some ⟨g,0,none⟩) n' cp)∧aG w' W.heap.size g n' cp (wZ L)∧ai W w'):=fun W av cv g cp hW hN hT=>by
   obtain⟨m,hc,hz⟩:=xI hpl;rw[hz];exact CV hpl hsg L.length m 0 (L.length:Int) W ⟨h.call hW,hN,hT⟩ hc (by omega) (by omega) (by omega)
  have HT:Hid (∀W,ai w W→dj W):=fun W hW=>ig ht hW
  rw[hp]at HSC;obtain⟨nX,hnX⟩:∃nX,(aL L).length=nX:=⟨_,rfl⟩;obtain⟨nL,hnL⟩:∃nL,L.length=nL:=⟨_,rfl⟩;rw[hnX,hnL]at HD HF HS;rw[hnL]at HSC ⊢;rw[hnX]at hdl;rw[hnL]at hdl hL2;clear hp hG hpl hsg h ht hL;go_enter func7,ntmps7;go_wp2_with fail;refine HSC.out.mono ?_;rintro e w1 ⟨rfl,hb1⟩;go_wp2_with fail;refine(HD.out _ hb1).mono ?_;rintro e w2 ⟨av,cv,rfl,hN,hb2⟩;have hB2:=aw hb1 hb2;clear hb1 hb2;go_wp2_with fail;refine(HF.out _ hB2).mono ?_;rintro e w3 ⟨g,cp,rfl,hT,hb3⟩;have hB3:=aw hB2 hb3;have hN3:=hN.call hb3;clear hB2 hb3 hN;have hbA:=ay (Below.refl w3.heap.size w3) (.cells #[.slice a nL cap,.slice av nX cv,.slice (some ⟨g,0,none⟩) nX cp] 41);have hB4:=aw hB3 hbA;have hNA:=hN3.call hbA;have hTA:=hT.call hbA;clear hbA hN3 hT hB3;go_wp2_with fail;refine(HS.out _ av cv g cp hB4 hNA hTA).mono ?_;rintro e w5 ⟨g5,n5,c5,rfl,hO5,hb5⟩;have hB5:=aw hB4 hb5;have hO5w:=dW hO5 hB4.size;have hT5:=HT.out _ hB5;clear hB4 hb5 hO5 hNA hTA;go_wp2_with fail;refine(J0 g5 n5 c5 w.heap.size (wZ L) _ hT5 hO5w hzG hzl hB5.size).mono ?_;rintro e w6 ⟨g6,n6,c6,rfl,hO6,hb6⟩;have hB6:=aw hB5 hb6;rw[←HC.out]at hO6;have hn6:n6=(gQ L).length:=by
   have:=hO6.1;simpa using this.symm
  have HN:=aj hn6;clear HC hn6;go_wp2;go_ret;exact⟨_,_,_,rfl,HN.out,hO6,hB6⟩
end Go.Proofs.YtdojfommmpnbgaaGreatDoor
