import Derived.Test.YtdojfommmpnbgaaGreatDoorKAW
import Derived.Deep.RegionWith
import Derived.Deep.RegionLaw
set_option maxHeartbeats 8000000
set_option maxRecDepth 100000
namespace Go.Proofs.YtdojfommmpnbgaaGreatDoor
open Go.RowKit Go.Proofs.Tryz
theorem yw(L:af):∀k i,(ar L k i).length=k
 |0,_=>rfl
 |k+1,i=>by
  show(i::ar L k (ag L i)).length=k+1;rw[List.length_cons,yw L k]
theorem Ku{L:af}{p:Int}(h:fm L 3 p≠-1):be L p∈L:=by
 obtain⟨h0,h1,h2⟩:=jY h;unfold be;rcases h2 with h2|h2
 ·rw[if_pos h2.1];exact wY (by omega) h2.2.2.1
 ·rw[if_neg (by rw[h2.1];decide)];exact wY h0 h1
theorem B9{L:af}{e:Int}:∀k i,iy L k i e→∀s∈(ar L k i).map (be L),s∈L
 |0,_,_,s,hs=>by cases hs
 |k+1,i,h,s,hs=>by
  rcases List.mem_cons.mp hs with rfl|hs
  ·exact Ku h.1
  ·exact B9 k _ h.2 s hs
theorem Hr{a:Option Addr}{cap:Nat}{L:af}{c n:Nat}(hIt:iP a cap L c n)(hBl:lH a cap L c n)(hL:L.length≤2000)(i:Int)(K:Kn)(F:Ot)(vn vh:Value)(w:World)(hE:bu c w a L vn vh K F)(hv:aH L i)(ho:ae (aa L i) [40]=true)(hfn:ae (aa L (i+1)) [102,110]=true)
  (hn:2*aB L i≤n) (hkn:K.nm.length≤kb L i) (hkh:K.hd.length≤kb L i) (hb:bZ F (fD L (wk L n) i K)) :
  ah 147 #[.pointer (some ⟨c,0,none⟩),.slice a L.length cap,.int .i64 i,.agg #[vn,vh,.bool K.lp]] w fun e w'=>e=.returned (.tuple #[])∧aY c w' (F.plus (fD L (wk L n) i K))∧az c w w':=by
 obtain⟨i0,hi,hz0,hz1,hz2⟩:=info_parts Tryz.OJ;obtain⟨_,kk,e7,mm,e6,q1,q2,q3,q4,q5,q6,q7,q8,q9,q10⟩:=hv.fn ho hfn;have hve:=hv.ends;have hqe:=gJ kk _ q1 q2;have hqd:=gU mm _ q6 q7;have hplc:=rp q1 q2 q3 q4;have hXl:((ar L kk (i+3)).map (be L)).length=kk:=by rw[List.length_map,yw]
 have hXm:=xi hE.2.1.arg (B9 kk _ q1);have hcz:=hE.lt;have HW:Hid (F.plus (fD L (wk L n) i K)=((F.plus ⟨[],[],db ((ar L kk (i+3)).map (be L))⟩).plus (aW (eE L fun p=>wk L n 0 false p (cj (cz K ((ar L kk (i+3)).map (be L))) false)) (ar L kk (i+3)))).plus (wk L n 1 (!(ar L kk (i+3)).any fun p=>ae (aa L p) [40]) (e7+1) (cj (cz K ((ar L kk (i+3)).map (be L))) false))):=by
  show _=_;unfold fD;rw[hplc,q5,Ot.OM,Ot.OM]
 have hb':=hb;unfold fD at hb';rw[hplc,q5]at hb';have HB1:Hid (bZ (F.plus ⟨[],[],db ((ar L kk (i+3)).map (be L))⟩) (aW (eE L fun p=>wk L n 0 false p (cj (cz K ((ar L kk (i+3)).map (be L))) false)) (ar L kk (i+3)))):=hb'.right.left;have HB2:Hid (bZ ((F.plus ⟨[],[],db ((ar L kk (i+3)).map (be L))⟩).plus (aW (eE L fun p=>wk L n 0 false p (cj (cz K ((ar L kk (i+3)).map (be L))) false)) (ar L kk (i+3)))) (wk L n 1 (!(ar L kk (i+3)).any fun p=>ae (aa L p) [40]) (e7+1) (cj (cz K ((ar L kk (i+3)).map (be L))) false))):=hb'.right.right;clear hb hb';have hB0b:=ay (Below.refl w.heap.size w) (.cells #[vn,vh,.bool K.lp] 75);have hE0:=hE.call hB0b;have hX0:=gH w vn vh (.bool K.lp) 75;go_enter func147,ntmps147;go_wp2_with fail;refine(A8 a cap L i e7 kk _ hE0.2.1.arg (by omega) hve.1 q1 q2 q3 q4).mono ?_;rintro r w1 ⟨v8,rfl,hN1,hb1⟩;have hE1:=hE0.call hb1;have hX1:=hX0.call hb1;have hbw1:=aw hB0b hb1;have hN1':a8 w1 (w.heap.size+1) v8 ((ar L kk (i+3)).map (be L)):=⟨mc hN1.1 (by simp),hN1.2⟩;clear hN1 hb1 hE0 hX0;generalize (ar L kk (i+3)).map (be L)=X at HW HB1 HB2 hN1' hXl hXm;obtain⟨g1,cp1,rfl⟩:=hN1'.shape;have hLX:=hN1'.OL (c:=c) (by omega) hXm;have hkkl:kk≤2000:=by omega
 have hXlen:X.length≤2000:=by omega
 have HXL:=aj hXl;clear hXl;go_upto_region 2 with fail;go_cut [25] (fun _ wc=>az c w1 wc∧kc c w wc (F.bad||db X))
 case first =>
  obtain⟨vf,vs,c0,c1,c2,l0,l1,f0,f1,f2,hz⟩:=id hE1.1;have HFIN:Hid (∀(W:World) (b:Bool),ai w1 W→az c w1 (W.setCell ⟨c,2,none⟩ (.bool b))∧kc c w (W.setCell ⟨c,2,none⟩ (.bool b)) b):=fun W b hB=>⟨(az.j hB).setCur 2 _,BG hE.1 ((hB.block c hz).trans (hbw1.block c hcz)) b⟩
  have HKC:Hid (∀W:World,ai w1 W→W.cell? ⟨c,2,none⟩=some (.bool F.bad)∧W.frozen? ⟨c,2,none⟩=false):=fun W hB=>⟨(hB.cell (p:=⟨c,2,none⟩) hz).trans c2,(hB.frozen (p:=⟨c,2,none⟩) hz).trans f2⟩
  cases hFb:F.bad
  ·rw[hFb]at c2;cases ht1:db X
   ·have H1:=aj ht1;have HB0:=aj hFb;clear ht1 hFb;go_wp2_with fail;refine(nT c _ X _ hLX (by omega)).mono ?_;rintro r w3 ⟨rfl,hb3⟩;rw[H1.out];obtain⟨k3,z3⟩:=HKC.out w3 hb3;rw[HB0.out]at k3;go_wp2;go_meet;rw[HB0.out,H1.out];exact HFIN.out w3 false hb3
   ·have H1:=aj ht1;have HB0:=aj hFb;clear ht1 hFb;go_wp2_with fail;refine(nT c _ X _ hLX (by omega)).mono ?_;rintro r w3 ⟨rfl,hb3⟩;rw[H1.out];obtain⟨k3,z3⟩:=HKC.out w3 hb3;rw[HB0.out]at k3;go_wp2;go_meet;rw[HB0.out,H1.out];exact HFIN.out w3 true hb3
  ·rw[hFb]at c2;have HB0:=aj hFb;clear hFb;go_wp2;go_meet;rw[HB0.out];exact HFIN.out w1 true (Below.refl _ _)
 case rest =>
 obtain⟨hbc,hMk⟩:=hcut;have hXc:=hX1.but hbc (by omega);have hNc:=hN1'.but hbc (by omega);have hBc:az c w wc:=(az.j hbw1).trans hbc;clear hN1' hX1 hE1 hbc hLX;have hwc:w.heap.size<wc.heap.size:=hXc.lt;obtain⟨t0,t1,t2,_⟩:=hXc.1;have hkl:K.nm.length≤4004001:=by have:=jD (L:=L) (i:=i) hL (by omega);omega
 have hg1c:=hNc.lo;go_wp2_with fail;refine(ku c vn K.nm wc (hE.2.2.1.but hBc) (by omega)).mono ?_;rintro r w3 ⟨v30,rfl,hQ3,hb3⟩;have hN3:=hNc.call hb3;have hX3:=hXc.call hb3;have hB3:=hBc.trans (az.j hb3);have hMk3:=hMk.same (hb3.block c (by omega));have hz3:=hb3.size;obtain⟨g3,cp3,rfl⟩:=hQ3.shape;have hl3:=hQ3.lo;have hcc1:=hN3.news;have hcc2:=wi X;have hc0:(X.map Value.string).length=X.length*1:=by simp
 have hc3:K.nm.length+X.length≤maxLen:=by unfold maxLen;omega
 have hc4:(K.nm.length+X.length)*16≤140737488355328:=by omega
 have hc5:wc.heap.size≤w3.heap.size:=hz3;clear hNc hXc hMk hb3 t0 t1 t2;go_wp2_with (at_builtin;refine wpList_append_own _ rfl _ _ 22 rfl wc.heap.size 9 i0 (.string ⟨#[]⟩) 1 16 Tryz.underlying22 hi hz0 hz1 hz2 rfl (by decide) _ _ _ rfl hQ3.1 ⟨g1,0,none⟩ X.length cp1 (X.map Value.string) rfl hc0 hcc1 hcc2 hc3 hc4 hc5 ?_)
 intro v32 w4 hown' hgrow hnil;have hQ4:a8 w4 wc.heap.size v32 (K.nm++X):=by
  refine⟨?_,fun er=>?_⟩
  ·unfold dq;rw[List.map_append,List.length_append];exact hown'
  ·simp[er]at hnil
 have hg34:∀q,(Value.slice (some ⟨g3,0,none⟩) K.nm.length cp3).ownBlock=some q→w.heap.size≤q:=fun q hq=>by simp[Value.ownBlock]at hq;omega
 have hB4:=hB3.grown hgrow hg34;have hX4:=hX3.grown hgrow (fun e=>by simp[Value.ownBlock]at e;omega);have hMk4:=hMk3.same (hgrow.block c (by omega) (fun e=>by simp[Value.ownBlock]at e;omega));have hz4:=hgrow.size;clear hown' hgrow hnil hX3 hMk3 hQ3 hN3 hcc1 hcc2 hc0 hc3 hc4 hc5 hg34;obtain⟨Z1,hZ1⟩:∃Z,Z=K.nm++X:=⟨_,rfl⟩;rw[←hZ1]at hQ4;have HZ1:=aj hZ1;clear hZ1;obtain⟨g4,cp4,rfl⟩:=hQ4.shape;have hl4:=hQ4.lo;obtain⟨w5,hw5⟩:∃w5,w5=(w4.setCell ⟨w.heap.size,0,none⟩ (.slice (some ⟨g4,0,none⟩) Z1.length cp4)).setCell ⟨w.heap.size,2,none⟩ (.bool false):=⟨_,rfl⟩;have hB5:az c w w5:=by rw[hw5];exact(hB4.OX (p:=⟨w.heap.size,0,none⟩) _ (Nat.le_refl _)).OX (p:=⟨w.heap.size,2,none⟩) _ (Nat.le_refl _)
 have hX5:cX w.heap.size (.slice (some ⟨g4,0,none⟩) Z1.length cp4) vh (.bool false) w5:=by rw[hw5];exact(hX4.O0 _).O3 _
 have hQ5:a8 w5 wc.heap.size (.slice (some ⟨g4,0,none⟩) Z1.length cp4) Z1:=by rw[hw5];exact(hQ4.set (p:=⟨w.heap.size,0,none⟩) _ hwc).set (p:=⟨w.heap.size,2,none⟩) _ hwc
 have hMk5:kc c w w5 (F.bad||db X):=by rw[hw5];exact(hMk4.same (Below.heap_setCell w4 ⟨w.heap.size,0,none⟩ _ c (by simp;omega))).same (Below.heap_setCell _ ⟨w.heap.size,2,none⟩ _ c (by simp;omega))
 obtain⟨⟨x0,x1,x2,_⟩,xf0,xf1,xf2⟩:=id hX4;go_upto_region 5 with fail;rw[←hw5];clear hw5 x0 x1 x2 xf0 xf1 xf2 hX4 hMk4 hQ4 hB4;have hZ1:=HZ1.out;subst hZ1;have hsn:∀i (h:i<(K.nm++X).length),(K.nm++X)[i].size≤maxLen:=fun j hj=>by
  rw[List.getElem_append];split
  ·rename_i h1;exact hE.2.2.1.size j h1
  ·exact hXm _ _
 have hE5:bu c w5 a L (.slice (some ⟨g4,0,none⟩) (K.nm++X).length cp4) vh (cj (cz K X) false) (F.plus ⟨[],[],db X⟩):=by
  rw[pG];exact⟨hE.1.Pa hB5 hMk5,hE.2.1.but hB5,hQ5.OL (c:=c) (by omega) hsn,hE.2.2.2.but hB5⟩
 have hku:=jE (L:=L) (i:=i) (j:=i+1) hve.1 (by omega);have hkn2:(cj (cz K X) false).nm.length≤kb L (i+1):=by show(K.nm++X).length≤_;rw[List.length_append,HXL.out];omega
 have hkh2:(cj (cz K X) false).hd.length≤kb L (i+1):=by show K.hd.length≤_;omega
 have HLP:Hid ((cj (cz K X) false).lp=false):=(rfl:(cj (cz K X) false).lp=false);clear hQ5 hMk5 hsn hkn hkh HZ1;generalize (.slice (some ⟨g4,0,none⟩) (K.nm++X).length cp4:Value)=vn2 at hE5 hX5 ⊢;obtain⟨f,hf⟩:∃f:Int→Ot,f=fun p=>wk L n 0 false p (cj (cz K X) false):=⟨_,rfl⟩
 rw[←hf]at HW HB1 HB2;have HF:Hid (∀p,wk L n 0 false p (cj (cz K X) false)=f p):=fun p=>by rw[hf]
 clear hf;generalize cj (cz K X) false=K2 at hE5 hkn2 hkh2 HLP HF HW HB2;generalize F.plus ⟨[],[],db X⟩=F1 at hE5 HW HB1 HB2;clear hXm hkl hku;have hku2:=jE (L:=L) (i:=i+1) (j:=e7+1) (by omega) (by omega);have hfar2:=dC (L:=L) (i:=i) (j:=e7+1) hve.1 (by omega) (by omega);go_wp2;go_loopw [10] (fun v10 wr=>∃(x m:Nat) (G:Ot),v10=.int .i64 (x:Int)∧i+3≤(x:Int)∧iy L m (x:Int) e7∧bu c wr a L vn2 vh K2 G∧cX w.heap.size vn2 vh (.bool false) wr∧az c w wr∧Hid (G.plus (aW (eE L f) (ar L m (x:Int)))=F1.plus (aW (eE L f) (ar L kk (i+3))))∧Hid (bZ G (aW (eE L f) (ar L m (x:Int))))) (fun v10 _=>e7.toNat-(intOf v10).toNat)
 case atStart =>
  obtain⟨q,hq⟩:∃q:Nat,i=(q:Int):=⟨i.toNat,by omega⟩;subst hq;have hc3:((q+3:Nat):Int)=(q:Int)+3:=by omega
  exact⟨q+3,kk,F1,by go_num,by omega,by rw[hc3];exact q1,hE5,hX5,hB5,by rw[hc3];rfl,by rw[hc3];exact HB1.out⟩
 case round =>
  obtain⟨x,m,G,rfl,hix,hm,hEr,hXr,hBr,HP,HB⟩:=hrel;have hxe:=gJ m _ hm q2;have hxl:x<L.length:=by omega
  obtain⟨sb,off,rfl,hcx,_,hsbl,_⟩:=hEr.2.1.at x hxl;obtain⟨u0,u1,u2,_⟩:=hXr.1;cases m with
  |zero =>
   have ex:(x:Int)=e7:=hm;have b41:((aa L x).toList==[41])=true:=by rw[ex];exact q4
   have HG:=aj (by rw[←HP.out];exact(Ot.OO G).symm:G=F1.plus (aW (eE L f) (ar L kk (i+3))));have HBL:Hid (∀(W:World),bu c W (some ⟨sb,off,none⟩) L vn2 vh K2 G→ah 48 #[.pointer (some ⟨c,0,none⟩),.slice (some ⟨sb,off,none⟩) L.length cap,.int .i64 (e7+1),.agg #[vn2,vh,.bool false],.bool (!(ar L kk (i+3)).any fun p=>ae (aa L p) [40])] W fun r w'=>r=.returned (.tuple #[])∧aY c w' (F.plus (fD L (wk L n) i K))∧az c W w'):=fun W hW=>by
    have h1:=hBl (!(ar L kk (i+3)).any fun p=>ae (aa L p) [40]) (e7+1) e6 mm K2 G vn2 vh W hW q6 (bP q9) q7 (by omega) (by omega) (by omega) (by omega) (by rw[HG.out];exact HB2.out);rw[HLP.out]at h1;rw[HW.out,←HG.out];exact h1
   have HGV:Hid (∀(W:World),aD W (some ⟨sb,off,none⟩) L→ah 179 #[.slice (some ⟨sb,off,none⟩) L.length cap,.int .i64 i] W (aA (.bool ((ar L kk (i+3)).any fun p=>ae (aa L p) [40])) W)):=fun W hW=>Hs _ cap L i e7 kk W hW (by omega) hve.1 q1 q2 q3 q4
   generalize ((ar L kk (i+3)).any fun p=>ae (aa L p) [40])=gv at HBL HGV;clear HP HB HG HW HB1 HB2 ex hm;generalize aa L (x:Int)=t at hcx b41;go_wp2
   first
    |go_region_with (first
      |(go_at_call 179;refine(HGV.out wr.drew hEr.2.1.arg).mono ?_;rintro r w8 ⟨rfl,hb8d⟩;have hb8:ai wr w8:=⟨hb8d.os,hb8d.tape,hb8d.output,hb8d.size,hb8d.block⟩;have hE8:=hEr.call hb8;have hX8:=hXr.call hb8;obtain⟨y0,y1,y2,_⟩:=hX8.1)
      |(go_at_call 48;refine(HBL.out w8 hE8).mono ?_;rintro r w9 ⟨rfl,hF9,hb9⟩))
    |fail
   all_goals go_wp2
   all_goals go_end0
   all_goals exact⟨rfl,hF9,(hBr.trans (az.j hb8)).trans hb9⟩
  |succ m =>
   obtain⟨hp,hm2⟩:=hm;obtain⟨p0,p1,hpp⟩:=jY hp;have hpe:=lx hp;have hq:=gJ m _ hm2 q2;have b41:((aa L x).toList==[41])=false:=rh hp;have HPx:Hid ((G.plus (eE L f (x:Int))).plus (aW (eE L f) (ar L m (ag L x)))=F1.plus (aW (eE L f) (ar L kk (i+3)))):=by
    show _=_;rw[←HP.out,←Ot.OM];rfl
   have hb3:bZ G ((eE L f (x:Int)).add (aW (eE L f) (ar L m (ag L x)))):=HB.out;have HB2x:Hid (bZ (G.plus (eE L f (x:Int))) (aW (eE L f) (ar L m (ag L x)))):=hb3.right;have HB1x:Hid (bZ G (eE L f (x:Int))):=hb3.left;clear HP HB hb3;obtain⟨z,hz⟩:∃z:Nat,ag L (x:Int)=(z:Int):=⟨(ag L x).toNat,by omega⟩;have HZ:=aj hz;rw[hz]at HPx HB2x hm2 hpe hq hpp;clear hz;rcases hpp with⟨r1,r2,r3,r4,r5⟩|⟨r1,r2,r3⟩
   ·have b40:=aM r1;have HO:=aj (by unfold eE;rw[if_pos r1]:eE L f (x:Int)=f ((x:Int)+2));rw[HO.out]at HPx HB2x HB1x;have hfar:=dC (L:=L) (i:=i) (j:=(x:Int)+2) hve.1 (by omega) (by have:=r4.ends;omega);have hk1:=vy (L:=L) (i:=i+1) (j:=(x:Int)+2) (by omega);have HC:Hid (ah 90 #[.pointer (some ⟨c,0,none⟩),.slice (some ⟨sb,off,none⟩) L.length cap,.int .i64 ((x:Int)+2),.agg #[vn2,vh,.bool false]] wr fun r w'=>r=.returned (.tuple #[])∧aY c w' (G.plus (f ((x:Int)+2)))∧az c wr w'):=by
     have h1:=hIt ((x:Int)+2) K2 G vn2 vh wr hEr r4 (by omega) (by omega) (by omega) (by rw[HF.out];exact HB1x.out);rw[HLP.out,HF.out]at h1;exact h1
    clear HO r5 HB1x;generalize f ((x:Int)+2)=o1 at HC HPx HB2x;generalize aa L (x:Int)=t at hcx b41 b40;go_wp2_with fail;refine HC.out.mono ?_;rintro r w8 ⟨rfl,hF8,hb8⟩;have hE8:=hEr.but hb8 hF8;have hX8:=hXr.but hb8 (by omega);have hB8:=hBr.trans hb8;clear HC;go_wp2_with fail;refine(dk _ cap L (x:Int) _ hE8.2.1.arg (by omega) ⟨by omega,by omega⟩).mono ?_;rintro r w9 ⟨rfl,hb9⟩;have hE9:=hE8.call hb9;have hX9:=hX8.call hb9;have hB9:=hB8.trans (az.j hb9);rw[HZ.out];go_wp2;go_roundw
    case rel=>exact⟨z,m,_,rfl,by omega,hm2,hE9,hX9,hB9,HPx.out,HB2x.out⟩
    case measure=>simp[intOf];omega
   ·have b40:=aM r1;have HO:=aj (by unfold eE;rw[if_neg (by rw[r1];decide)];exact Ot.OO G:G.plus (eE L f (x:Int))=G);rw[HO.out]at HPx HB2x;clear HO r3 HB1x;generalize aa L (x:Int)=t at hcx b41 b40;go_wp2_with fail;refine(dk _ cap L (x:Int) _ hEr.2.1.arg (by omega) ⟨by omega,by omega⟩).mono ?_;rintro r w9 ⟨rfl,hb9⟩;have hE9:=hEr.call hb9;have hX9:=hXr.call hb9;have hB9:=hBr.trans (az.j hb9);rw[HZ.out];go_wp2;go_roundw
    case rel=>exact⟨z,m,G,rfl,by omega,hm2,hE9,hX9,hB9,HPx.out,HB2x.out⟩
    case measure=>simp[intOf];omega
theorem bA.OP{c:Nat}{w:World}{v u u0:Value}{X:af}{p:Addr}(h:bA c w v X)(h0:w.cell? p=some u0)(hs:∀s,u0≠.string s):bA c (w.setCell p u) v X:=by
 rcases h with h|⟨sb,off,cap,hv,h1,h2,h3,h4,h5⟩
 ·exact .inl h
 ·refine .inr ⟨sb,off,cap,hv,h1,h2,by simpa[World.setCell]using h3,h4,fun i hi=>⟨?_,(h5 i hi).2⟩⟩;have h6:=(h5 i hi).1;rw[World.cell?_setCell_other w p ⟨sb,off+i,none⟩ u (fun hh=>?_)]
  ·exact h6
  ·rw[hh,h6]at h0;injection h0 with h0;exact hs _ h0.symm
theorem aY.OP{c:Nat}{w:World}{u u0:Value}{F:Ot}{p:Addr}(h:aY c w F)(h0:w.cell? p=some u0)(hs:∀s,u0≠.string s)(hp:p.block≠c):aY c (w.setCell p u) F:=by
 obtain⟨vf,vs,c0,c1,c2,l0,l1,f0,f1,f2,hz⟩:=h;have hk:∀o,(w.setCell p u).cell? ⟨c,o,none⟩=w.cell? ⟨c,o,none⟩:=fun o=>World.cell?_of_block (w:=w) (a:=⟨c,o,none⟩) (Below.heap_setCell w p u c (fun e=>hp e.symm))
 exact⟨vf,vs,(hk 0).trans c0,(hk 1).trans c1,(hk 2).trans c2,l0.OP h0 hs,l1.OP h0 hs,by rw[World.frozen?_setCell];exact f0,by rw[World.frozen?_setCell];exact f1,by rw[World.frozen?_setCell];exact f2,by simpa[World.setCell]using hz⟩
theorem bA.Py{c:Nat}{w:World}{v:Value}{X:af}(h:bA c w v X):∀s,v≠.string s:=fun s e=>by
 rcases h with⟨hv,_⟩|⟨_,_,_,hv,_⟩<;>rw[hv]at e<;>cases e
theorem bu.loop{c:Nat}{w W:World}{a:Option Addr}{L:af}{vn vh:Value}{K:Kn}{F G:Ot}{b:Bool}(hE:bu c w a L vn vh K F)(hF:aY c W G)(hX:cX w.heap.size vn vh (.bool b) W)(hB:az c w W)(hc:c<w.heap.size) :
  bu c (W.setCell ⟨w.heap.size,2,none⟩ (.bool true)) a L vn vh (cj K true) G∧cX w.heap.size vn vh (.bool true) (W.setCell ⟨w.heap.size,2,none⟩ (.bool true))∧az c w (W.setCell ⟨w.heap.size,2,none⟩ (.bool true)):=by
 have h1:=hB.OX (p:=⟨w.heap.size,2,none⟩) (.bool true) (Nat.le_refl _);exact⟨⟨hF.OP hX.1.2.2.1 (fun s e=>by cases e) (by simp;omega),hE.2.1.but h1,hE.2.2.1.but h1,hE.2.2.2.but h1⟩,hX.O3 _,h1⟩
theorem bu.more{c:Nat}{w w1 w4:World}{a:Option Addr}{L:af}{vn vh v:Value}{K:Kn}{F G:Ot}{y:ByteArray}(hE:bu c w a L vn vh K F)(hE1:bu c w1 a L vn vh (cj K true) G)(hX1:cX w.heap.size vn vh (.bool true) w1)(hB1:az c w w1)(hc:c<w.heap.size)(hQ:a8 w4 w1.heap.size v (K.nm++[y]))(hb:ai w1 w4)(hy:y.size≤maxLen) :
  bu c (w4.setCell ⟨w.heap.size,0,none⟩ v) a L v vh (cz (cj K true) [y]) G∧cX w.heap.size v vh (.bool true) (w4.setCell ⟨w.heap.size,0,none⟩ v)∧az c w (w4.setCell ⟨w.heap.size,0,none⟩ v):=by
 have hX4:=hX1.call hb;have h1:=(hB1.trans (az.j hb)).OX (p:=⟨w.heap.size,0,none⟩) v (Nat.le_refl _);have hQ5:=hQ.set (p:=⟨w.heap.size,0,none⟩) v hX1.lt;have hsn:∀i (h:i<(K.nm++[y]).length),(K.nm++[y])[i].size≤maxLen:=fun j hj=>by
  rw[List.getElem_append];split
  ·rename_i h2;exact hE.2.2.1.size j h2
  ·simpa using hy
 exact⟨⟨(hE1.1.call hb).OP hX4.1.1 hE.2.2.1.Py (by simp;omega),hE.2.1.but h1,hQ5.OL (by have:=hX1.lt;omega) hsn,hE.2.2.2.but h1⟩,hX4.O0 _,h1⟩
theorem BK(w:World)(y:ByteArray)(T:TypeId):∀j v,[Value.string y][j]?=some v→(w.alloc (.cells #[.string y] T)).cell? ((⟨w.heap.size,0,none⟩:Addr).add j)=some v:=fun j v hj=>by
 match j,hj with
 |0,hj=>simp at hj;subst hj;simp[Addr.add]
theorem Je(w:World)(y:ByteArray)(T:TypeId){w':World}(hb:Below (w.alloc (.cells #[.string y] T)).heap.size (w.alloc (.cells #[.string y] T)) w'):∀j v,[Value.string y][j]?=some v→w'.cell? ((⟨w.heap.size,0,none⟩:Addr).add j)=some v:=fun j v hj=>by
 match j,hj with
 |0,hj=>exact(hb.cell (p:=⟨w.heap.size,0,none⟩) (by simp)).trans (BK w y T 0 v hj)
theorem Dd{P:Program}{ops:Array Oper}{o:Oper}{a:Act}{w:World}{K:Act→World→Prop}{Q:Exit→Act→World→Prop}{E:Prop}
  (hg:o.guard=none) (s x:Operand) (t:TypeId) (hop:o.op=Op.call { callee:=Callee.builtin Builtin.append,args:=#[s,x],argTypes:=#[t,t] })
  (base:Nat) (e:TypeId) (i:TypeInfo) (z:Value) (size bytes:Nat) (h1:P.underlying t=some (.slice e)) (h2:P.info? e=some i) (h3:i.zero=some z) (h4:i.size=size) (h5:i.bytes=bytes) (h6:z.cells.size=size) (h7:0<size)
  (v:Value) (n:Nat) (xs:List Value) (hs:a.eval s=v) (hown:w.ownsRow base e size v n xs)
  (ad:Addr) (m c:Nat) (news:List Value) (hx:a.eval x=.slice (some ad) m c) (hn:news.length=m*size) (hc:∀j u,news[j]?=some u→w.cell? (ad.add j)=some u) (h1c:∀u∈news,u.oneCell'=true)
  (b1:n+m≤maxLen) (b2:(n+m)*bytes≤140737488355328) (hbase:base≤w.heap.size)
  (hK:∀v' w',w'.ownsRow base e size v' (n+m) (xs++news)→w.grownBy w' v.ownBlock→(v'=.slice none 0 0↔v=.slice none 0 0∧m=0)→K (a.put o.dst v') w') :
  if Region.wanted o (yielded ops a.tmps)=true then Oper.wp P o a w K Q else E:=by
 have hw:Region.wanted o (yielded ops a.tmps)=true:=by simp[Region.wanted,hg]
 rw[if_pos hw];obtain⟨v',w',hrun,r1,r2,r3⟩:=run_append_own (P:=P) w base t o.type e i z size bytes h1 h2 h3 h4 h5 h6 h7 v n xs hown ad m c news hn hc h1c b1 b2 hbase;unfold Oper.wp;simp[execOp,hop,resolve,invoke,builtin,hs,hx,hrun,Result.andThen];exact hK v' w' r1 r2 r3
section
variable {a:Option Addr} {cap:Nat} {L:af} {c n:Nat}
theorem GF(hIt:iP a cap L c n)(hBl:lH a cap L c n)(hL:L.length≤2000)(x:Nat)(K:Kn)(F:Ot)(vn vh:Value)(w:World)(hE:bu c w a L vn vh K F)(hv:aH L x)(hn:2*aB L (x:Int)≤n)(hkn:K.nm.length≤kb L (x:Int))(hkh:K.hd.length≤kb L (x:Int))(ho:ae (aa L x) [40]=true)(hw:ae (aa L ((x:Int)+1)) [100,111]=true)(hb:bZ F (wk L n 1 false ((x:Int)+2) K)) :
  ah 90 #[.pointer (some ⟨c,0,none⟩),.slice a L.length cap,.int .i64 x,.agg #[vn,vh,.bool K.lp]] w fun e w'=>e=.returned (.tuple #[])∧aY c w' (F.plus (wk L n 1 false ((x:Int)+2) K))∧az c w w':=by
 have hve:=hv.ends;have hcz:=hE.lt;have hkt:=jD (L:=L) (i:=(x:Int)) hL (by omega);have hB0b:=ay (Below.refl w.heap.size w) (.cells #[vn,vh,.bool K.lp] 75);have hB0:=az.j (c:=c) hB0b;have hE0:=hE.call hB0b;have hX0:=gH w vn vh (.bool K.lp) 75;obtain⟨k,e,q1,q2,q3⟩:=hv.OK ho hw;have qe:=dH q2;have qc:=gU k _ q1 qe.1;have hfar:=dC (L:=L) (i:=(x:Int)) (j:=(x:Int)+2) hve.1 (by omega) (by omega);have hku:=jE (L:=L) (i:=(x:Int)) (j:=(x:Int)+2) hve.1 (by omega);obtain⟨sb,off,rfl,s0,_,hsb,_⟩:=hE0.2.1.at x (by omega);have b40:=aM ho;obtain⟨sb1,off1,ha1,s1,m1,_,_⟩:=hE0.2.1.at (x+1) (by omega);injection ha1 with ha1;injection ha1 with e1 f1 _;subst e1;subst f1;rw[show((x+1:Nat):Int)=(x:Int)+1 by omega]at s1 m1;have b_fn:=aC hw [102,110];have b_do:=aM hw;have HC:Hid (∀W:World,bu c W (some ⟨sb,off,none⟩) L vn vh K F→ah 48 #[.pointer (some ⟨c,0,none⟩),.slice (some ⟨sb,off,none⟩) L.length cap,.int .i64 ((x:Int)+2),.agg #[vn,vh,.bool K.lp],.bool false] W fun e w'=>e=.returned (.tuple #[])∧aY c w' (F.plus (wk L n 1 false ((x:Int)+2) K))∧az c W w'):=fun W hW=>hBl false _ e k K F vn vh W hW q1 (bP q2) qe.1 (by omega) (by omega) (by omega) (by omega) hb
 generalize wk L n 1 false ((x:Int)+2) K=o1 at HC ⊢;clear hb hIt hBl;generalize aa L ((x:Int))=y0 at s0 b40;generalize aa L ((x:Int)+1)=y1 at s1 b_fn b_do;obtain⟨t0,t1,t2,_⟩:=hX0.1;go_enter func90,ntmps90;go_wp2_with fail;refine(HC.out _ hE0).mono ?_;rintro r w8 ⟨rfl,hF8,hb8⟩;go_wp2;go_end0;exact⟨rfl,hF8,hB0.trans hb8⟩
theorem GN(hIt:iP a cap L c n)(hBl:lH a cap L c n)(hL:L.length≤2000)(x:Nat)(K:Kn)(F:Ot)(vn vh:Value)(w:World)(hE:bu c w a L vn vh K F)(hv:aH L x)(hn:2*aB L (x:Int)≤n)(hkn:K.nm.length≤kb L (x:Int))(hkh:K.hd.length≤kb L (x:Int))(ho:ae (aa L x) [40]=true)(hw:ae (aa L ((x:Int)+1)) [108,101,116]=true)(hb:bZ F (wk L n 0 false ((x:Int)+3) K)) :
  ah 90 #[.pointer (some ⟨c,0,none⟩),.slice a L.length cap,.int .i64 x,.agg #[vn,vh,.bool K.lp]] w fun e w'=>e=.returned (.tuple #[])∧aY c w' (F.plus (wk L n 0 false ((x:Int)+3) K))∧az c w w':=by
 have hve:=hv.ends;have hcz:=hE.lt;have hkt:=jD (L:=L) (i:=(x:Int)) hL (by omega);have hB0b:=ay (Below.refl w.heap.size w) (.cells #[vn,vh,.bool K.lp] 75);have hB0:=az.j (c:=c) hB0b;have hE0:=hE.call hB0b;have hX0:=gH w vn vh (.bool K.lp) 75;obtain⟨_,q1,q2,q3⟩:=hv.OV ho _ hw (Or.inl rfl);have qe:=q2.ends;have hfar:=dC (L:=L) (i:=(x:Int)) (j:=(x:Int)+3) hve.1 (by omega) (by omega);have hku:=jE (L:=L) (i:=(x:Int)) (j:=(x:Int)+3) hve.1 (by omega);obtain⟨sb,off,rfl,s0,_,hsb,_⟩:=hE0.2.1.at x (by omega);have b40:=aM ho;obtain⟨sb1,off1,ha1,s1,m1,_,_⟩:=hE0.2.1.at (x+1) (by omega);injection ha1 with ha1;injection ha1 with e1 f1 _;subst e1;subst f1;rw[show((x+1:Nat):Int)=(x:Int)+1 by omega]at s1 m1;have b_fn:=aC hw [102,110];have b_do:=aC hw [100,111];have b_let:=aM hw;have HC:Hid (∀W:World,bu c W (some ⟨sb,off,none⟩) L vn vh K F→ah 90 #[.pointer (some ⟨c,0,none⟩),.slice (some ⟨sb,off,none⟩) L.length cap,.int .i64 ((x:Int)+3),.agg #[vn,vh,.bool K.lp]] W fun e w'=>e=.returned (.tuple #[])∧aY c w' (F.plus (wk L n 0 false ((x:Int)+3) K))∧az c W w'):=fun W hW=>hIt _ K F vn vh W hW q2 (by omega) (by omega) (by omega) hb
 generalize wk L n 0 false ((x:Int)+3) K=o1 at HC ⊢;clear hb hIt hBl;generalize aa L ((x:Int))=y0 at s0 b40;generalize aa L ((x:Int)+1)=y1 at s1 b_fn b_do b_let;obtain⟨t0,t1,t2,_⟩:=hX0.1;go_enter func90,ntmps90;go_wp2_with fail;refine(HC.out _ hE0).mono ?_;rintro r w8 ⟨rfl,hF8,hb8⟩;go_wp2;go_end0;exact⟨rfl,hF8,hB0.trans hb8⟩
theorem GG(hIt:iP a cap L c n)(hBl:lH a cap L c n)(hL:L.length≤2000)(x:Nat)(K:Kn)(F:Ot)(vn vh:Value)(w:World)(hE:bu c w a L vn vh K F)(hv:aH L x)(hn:2*aB L (x:Int)≤n)(hkn:K.nm.length≤kb L (x:Int))(hkh:K.hd.length≤kb L (x:Int))(ho:ae (aa L x) [40]=true)(hw:ae (aa L ((x:Int)+1)) [102,110]=true)(hx:x+1<L.length)(hb:bZ F (fD L (wk L n) (x:Int) K)) :
  ah 90 #[.pointer (some ⟨c,0,none⟩),.slice a L.length cap,.int .i64 x,.agg #[vn,vh,.bool K.lp]] w fun e w'=>e=.returned (.tuple #[])∧aY c w' (F.plus (fD L (wk L n) (x:Int) K))∧az c w w':=by
 have hve:=hv.ends;have hcz:=hE.lt;have hkt:=jD (L:=L) (i:=(x:Int)) hL (by omega);have hB0b:=ay (Below.refl w.heap.size w) (.cells #[vn,vh,.bool K.lp] 75);have hB0:=az.j (c:=c) hB0b;have hE0:=hE.call hB0b;have hX0:=gH w vn vh (.bool K.lp) 75;obtain⟨sb,off,rfl,s0,_,hsb,_⟩:=hE0.2.1.at x (by omega);have b40:=aM ho;obtain⟨sb1,off1,ha1,s1,m1,_,_⟩:=hE0.2.1.at (x+1) (by omega);injection ha1 with ha1;injection ha1 with e1 f1 _;subst e1;subst f1;rw[show((x+1:Nat):Int)=(x:Int)+1 by omega]at s1 m1;have b_fn:=aM hw;have HC:Hid (∀W:World,bu c W (some ⟨sb,off,none⟩) L vn vh K F→ah 147 #[.pointer (some ⟨c,0,none⟩),.slice (some ⟨sb,off,none⟩) L.length cap,.int .i64 x,.agg #[vn,vh,.bool K.lp]] W fun e w'=>e=.returned (.tuple #[])∧aY c w' (F.plus (fD L (wk L n) (x:Int) K))∧az c W w'):=fun W hW=>Hr hIt hBl hL _ K F vn vh W hW hv ho hw hn hkn hkh hb
 generalize fD L (wk L n) (x:Int) K=o1 at HC ⊢;clear hb hIt hBl;generalize aa L ((x:Int))=y0 at s0 b40;generalize aa L ((x:Int)+1)=y1 at s1 b_fn;obtain⟨t0,t1,t2,_⟩:=hX0.1;go_enter func90,ntmps90;go_wp2_with fail;refine(HC.out _ hE0).mono ?_;rintro r w8 ⟨rfl,hF8,hb8⟩;go_wp2;go_end0;exact⟨rfl,hF8,hB0.trans hb8⟩
theorem GJ(hL:L.length≤2000)(x:Nat)(K:Kn)(F:Ot)(vn vh:Value)(w:World)(hE:bu c w a L vn vh K F)(hv:aH L x)(ho:ae (aa L x) [40]=true)(hw:ae (aa L ((x:Int)+1)) [104,105,100,100,101,110]=true)(hx:x+1<L.length) :
  ah 90 #[.pointer (some ⟨c,0,none⟩),.slice a L.length cap,.int .i64 x,.agg #[vn,vh,.bool K.lp]] w fun e w'=>e=.returned (.tuple #[])∧aY c w' (F.plus (Ot.none))∧az c w w':=by
 have hve:=hv.ends;have hcz:=hE.lt;have hB0b:=ay (Below.refl w.heap.size w) (.cells #[vn,vh,.bool K.lp] 75);have hB0:=az.j (c:=c) hB0b;have hE0:=hE.call hB0b;have hX0:=gH w vn vh (.bool K.lp) 75;obtain⟨sb,off,rfl,s0,_,hsb,_⟩:=hE0.2.1.at x (by omega);have b40:=aM ho;obtain⟨sb1,off1,ha1,s1,m1,_,_⟩:=hE0.2.1.at (x+1) (by omega);injection ha1 with ha1;injection ha1 with e1 f1 _;subst e1;subst f1;rw[show((x+1:Nat):Int)=(x:Int)+1 by omega]at s1 m1;have b_fn:=aC hw [102,110];have b_do:=aC hw [100,111];have b_let:=aC hw [108,101,116];have b_set:=aC hw [115,101,116];have b_take:=aC hw [116,97,107,101];have b_hget:=aC hw [104,103,101,116];have b_hput:=aC hw [104,112,117,116];have b_hidden:=aM hw;generalize aa L ((x:Int))=y0 at s0 b40;generalize aa L ((x:Int)+1)=y1 at s1 b_fn b_do b_let b_set b_take b_hget b_hput b_hidden;go_enter func90,ntmps90;go_wp2;go_end0;exact⟨rfl,by rw[Ot.OO];exact hE0.1,hB0⟩
theorem GV(hL:L.length≤2000)(x:Nat)(K:Kn)(F:Ot)(vn vh:Value)(w:World)(hE:bu c w a L vn vh K F)(hv:aH L x)(ho:ae (aa L x) [40]=true)(hw:ae (aa L ((x:Int)+1)) [118,97,114,115]=true)(hx:x+1<L.length) :
  ah 90 #[.pointer (some ⟨c,0,none⟩),.slice a L.length cap,.int .i64 x,.agg #[vn,vh,.bool K.lp]] w fun e w'=>e=.returned (.tuple #[])∧aY c w' (F.plus (Ot.none))∧az c w w':=by
 have hve:=hv.ends;have hcz:=hE.lt;have hB0b:=ay (Below.refl w.heap.size w) (.cells #[vn,vh,.bool K.lp] 75);have hB0:=az.j (c:=c) hB0b;have hE0:=hE.call hB0b;have hX0:=gH w vn vh (.bool K.lp) 75;obtain⟨sb,off,rfl,s0,_,hsb,_⟩:=hE0.2.1.at x (by omega);have b40:=aM ho;obtain⟨sb1,off1,ha1,s1,m1,_,_⟩:=hE0.2.1.at (x+1) (by omega);injection ha1 with ha1;injection ha1 with e1 f1 _;subst e1;subst f1;rw[show((x+1:Nat):Int)=(x:Int)+1 by omega]at s1 m1;have b_fn:=aC hw [102,110];have b_do:=aC hw [100,111];have b_let:=aC hw [108,101,116];have b_set:=aC hw [115,101,116];have b_take:=aC hw [116,97,107,101];have b_hget:=aC hw [104,103,101,116];have b_hput:=aC hw [104,112,117,116];have b_hidden:=aC hw [104,105,100,100,101,110];have b_vars:=aM hw;generalize aa L ((x:Int))=y0 at s0 b40;generalize aa L ((x:Int)+1)=y1 at s1 b_fn b_do b_let b_set b_take b_hget b_hput b_hidden b_vars;go_enter func90,ntmps90;go_wp2;go_end0;exact⟨rfl,by rw[Ot.OO];exact hE0.1,hB0⟩
theorem GM(hL:L.length≤2000)(x:Nat)(K:Kn)(F:Ot)(vn vh:Value)(w:World)(hE:bu c w a L vn vh K F)(hv:aH L x)(ho:ae (aa L x) [40]=true)(hw:ae (aa L ((x:Int)+1)) [108,101,97,118,101]=true)(hx:x+1<L.length) :
  ah 90 #[.pointer (some ⟨c,0,none⟩),.slice a L.length cap,.int .i64 x,.agg #[vn,vh,.bool K.lp]] w fun e w'=>e=.returned (.tuple #[])∧aY c w' (F.plus (⟨[],[],!K.lp⟩))∧az c w w':=by
 have hve:=hv.ends;have hcz:=hE.lt;have hB0b:=ay (Below.refl w.heap.size w) (.cells #[vn,vh,.bool K.lp] 75);have hB0:=az.j (c:=c) hB0b;have hE0:=hE.call hB0b;have hX0:=gH w vn vh (.bool K.lp) 75;obtain⟨sb,off,rfl,s0,_,hsb,_⟩:=hE0.2.1.at x (by omega);have b40:=aM ho;obtain⟨sb1,off1,ha1,s1,m1,_,_⟩:=hE0.2.1.at (x+1) (by omega);injection ha1 with ha1;injection ha1 with e1 f1 _;subst e1;subst f1;rw[show((x+1:Nat):Int)=(x:Int)+1 by omega]at s1 m1;have b_fn:=aC hw [102,110];have b_do:=aC hw [100,111];have b_let:=aC hw [108,101,116];have b_set:=aC hw [115,101,116];have b_take:=aC hw [116,97,107,101];have b_hget:=aC hw [104,103,101,116];have b_hput:=aC hw [104,112,117,116];have b_hidden:=aC hw [104,105,100,100,101,110];have b_vars:=aC hw [118,97,114,115];have b_leave:=aM hw;generalize aa L ((x:Int))=y0 at s0 b40;generalize aa L ((x:Int)+1)=y1 at s1 b_fn b_do b_let b_set b_take b_hget b_hput b_hidden b_vars b_leave;rw[pG];obtain⟨t0,t1,t2,_⟩:=hX0.1;obtain⟨vf,vs,c0,c1,c2,l0,l1,f0,f1,f2,hz⟩:=id hE0.1;have HFIN:Hid (∀b:Bool,aY c ((w.alloc (.cells #[vn,vh,.bool K.lp] 75)).setCell ⟨c,2,none⟩ (.bool b)) ⟨F.fr,F.sc,b⟩∧az c w ((w.alloc (.cells #[vn,vh,.bool K.lp] 75)).setCell ⟨c,2,none⟩ (.bool b))):=fun b=>⟨hE0.1.O1 b,hB0.setCur 2 _⟩
 go_enter func90,ntmps90;go_upto_region 25 with fail;clear hB0b hB0 hX0 hE0 hsb s0 s1 l0 l1 t0 t1 c0 c1 f0 f1 hz;generalize w.alloc (.cells #[vn,vh,.bool K.lp] 75)=w1 at t2 c2 f2 HFIN ⊢;cases hFb:F.bad
 ·rw[hFb]at c2;cases hlp:K.lp
  ·rw[hlp]at t2;go_wp2;go_end0;exact⟨rfl,HFIN.out true⟩
  ·rw[hlp]at t2;go_wp2;go_end0;exact⟨rfl,HFIN.out false⟩
 ·rw[hFb]at c2;go_wp2;go_end0;exact⟨rfl,HFIN.out true⟩
theorem GP(hL:L.length≤2000)(x:Nat)(K:Kn)(F:Ot)(vn vh:Value)(w:World)(hE:bu c w a L vn vh K F)(hv:aH L x)(ho:ae (aa L x) [40]=true)(hw:ae (aa L ((x:Int)+1)) [110,101,120,116]=true)(hx:x+1<L.length) :
  ah 90 #[.pointer (some ⟨c,0,none⟩),.slice a L.length cap,.int .i64 x,.agg #[vn,vh,.bool K.lp]] w fun e w'=>e=.returned (.tuple #[])∧aY c w' (F.plus (⟨[],[],!K.lp⟩))∧az c w w':=by
 have hve:=hv.ends;have hcz:=hE.lt;have hB0b:=ay (Below.refl w.heap.size w) (.cells #[vn,vh,.bool K.lp] 75);have hB0:=az.j (c:=c) hB0b;have hE0:=hE.call hB0b;have hX0:=gH w vn vh (.bool K.lp) 75;obtain⟨sb,off,rfl,s0,_,hsb,_⟩:=hE0.2.1.at x (by omega);have b40:=aM ho;obtain⟨sb1,off1,ha1,s1,m1,_,_⟩:=hE0.2.1.at (x+1) (by omega);injection ha1 with ha1;injection ha1 with e1 f1 _;subst e1;subst f1;rw[show((x+1:Nat):Int)=(x:Int)+1 by omega]at s1 m1;have b_fn:=aC hw [102,110];have b_do:=aC hw [100,111];have b_let:=aC hw [108,101,116];have b_set:=aC hw [115,101,116];have b_take:=aC hw [116,97,107,101];have b_hget:=aC hw [104,103,101,116];have b_hput:=aC hw [104,112,117,116];have b_hidden:=aC hw [104,105,100,100,101,110];have b_vars:=aC hw [118,97,114,115];have b_leave:=aC hw [108,101,97,118,101];have b_next:=aM hw;generalize aa L ((x:Int))=y0 at s0 b40;generalize aa L ((x:Int)+1)=y1 at s1 b_fn b_do b_let b_set b_take b_hget b_hput b_hidden b_vars b_leave b_next;rw[pG];obtain⟨t0,t1,t2,_⟩:=hX0.1;obtain⟨vf,vs,c0,c1,c2,l0,l1,f0,f1,f2,hz⟩:=id hE0.1;have HFIN:Hid (∀b:Bool,aY c ((w.alloc (.cells #[vn,vh,.bool K.lp] 75)).setCell ⟨c,2,none⟩ (.bool b)) ⟨F.fr,F.sc,b⟩∧az c w ((w.alloc (.cells #[vn,vh,.bool K.lp] 75)).setCell ⟨c,2,none⟩ (.bool b))):=fun b=>⟨hE0.1.O1 b,hB0.setCur 2 _⟩
 go_enter func90,ntmps90;go_upto_region 25 with fail;clear hB0b hB0 hX0 hE0 hsb s0 s1 l0 l1 t0 t1 c0 c1 f0 f1 hz;generalize w.alloc (.cells #[vn,vh,.bool K.lp] 75)=w1 at t2 c2 f2 HFIN ⊢;cases hFb:F.bad
 ·rw[hFb]at c2;cases hlp:K.lp
  ·rw[hlp]at t2;go_wp2;go_end0;exact⟨rfl,HFIN.out true⟩
  ·rw[hlp]at t2;go_wp2;go_end0;exact⟨rfl,HFIN.out false⟩
 ·rw[hFb]at c2;go_wp2;go_end0;exact⟨rfl,HFIN.out true⟩
theorem GR(hIt:iP a cap L c n)(hBl:lH a cap L c n)(hL:L.length≤2000)(x:Nat)(K:Kn)(F:Ot)(vn vh:Value)(w:World)(hE:bu c w a L vn vh K F)(hv:aH L x)(hn:2*aB L (x:Int)≤n)(hkn:K.nm.length≤kb L (x:Int))(hkh:K.hd.length≤kb L (x:Int))(ho:ae (aa L x) [40]=true)(hw:ae (aa L ((x:Int)+1)) [115,101,116]=true)(hb:bZ F ((df K (aa L ((x:Int)+2))).add (wk L n 0 false ((x:Int)+3) K))) :
  ah 90 #[.pointer (some ⟨c,0,none⟩),.slice a L.length cap,.int .i64 x,.agg #[vn,vh,.bool K.lp]] w fun e w'=>e=.returned (.tuple #[])∧aY c w' (F.plus ((df K (aa L ((x:Int)+2))).add (wk L n 0 false ((x:Int)+3) K)))∧az c w w':=by
 have hve:=hv.ends;have hcz:=hE.lt;have hkt:=jD (L:=L) (i:=(x:Int)) hL (by omega);have hB0b:=ay (Below.refl w.heap.size w) (.cells #[vn,vh,.bool K.lp] 75);have hB0:=az.j (c:=c) hB0b;have hE0:=hE.call hB0b;have hX0:=gH w vn vh (.bool K.lp) 75;obtain⟨_,q1,q2,q3⟩:=hv.OV ho _ hw (Or.inr rfl);have qe:=q2.ends;have hfar:=dC (L:=L) (i:=(x:Int)) (j:=(x:Int)+3) hve.1 (by omega) (by omega);have hku:=jE (L:=L) (i:=(x:Int)) (j:=(x:Int)+3) hve.1 (by omega);obtain⟨sb,off,rfl,s0,_,hsb,_⟩:=hE0.2.1.at x (by omega);have b40:=aM ho;obtain⟨sb1,off1,ha1,s1,m1,_,_⟩:=hE0.2.1.at (x+1) (by omega);injection ha1 with ha1;injection ha1 with e1 f1 _;subst e1;subst f1;rw[show((x+1:Nat):Int)=(x:Int)+1 by omega]at s1 m1;obtain⟨sb2,off2,ha2,s2,m2,_,_⟩:=hE0.2.1.at (x+2) (by omega);injection ha2 with ha2;injection ha2 with e2 f2 _;subst e2;subst f2;rw[show((x+2:Nat):Int)=(x:Int)+2 by omega]at s2 m2;have b_fn:=aC hw [102,110];have b_do:=aC hw [100,111];have b_let:=aC hw [108,101,116];have b_set:=aM hw;rw[Ot.OM];have HU:Hid (∀W:World,bu c W (some ⟨sb,off,none⟩) L vn vh K F→ah 146 #[.pointer (some ⟨c,0,none⟩),.agg #[vn,vh,.bool K.lp],.string (aa L ((x:Int)+2))] W fun e w'=>e=.returned (.tuple #[])∧aY c w' (F.plus (df K (aa L ((x:Int)+2))))∧az c W w'):=fun W hW=>Bb c F K vn vh _ W hW.1 hW.2.2.1 (by omega) hb.left.use m2
 have HC:Hid (∀W:World,bu c W (some ⟨sb,off,none⟩) L vn vh K (F.plus (df K (aa L ((x:Int)+2))))→ah 90 #[.pointer (some ⟨c,0,none⟩),.slice (some ⟨sb,off,none⟩) L.length cap,.int .i64 ((x:Int)+3),.agg #[vn,vh,.bool K.lp]] W fun e w'=>e=.returned (.tuple #[])∧aY c w' ((F.plus (df K (aa L ((x:Int)+2)))).plus (wk L n 0 false ((x:Int)+3) K))∧az c W w'):=fun W hW=>hIt _ K _ vn vh W hW q2 (by omega) (by omega) (by omega) hb.right
 clear hb hIt hBl m1 m2;generalize F.plus (df K (aa L ((x:Int)+2)))=F1 at HC HU ⊢;generalize F1.plus (wk L n 0 false ((x:Int)+3) K)=F2 at HC ⊢;generalize aa L ((x:Int))=y0 at s0 b40;generalize aa L ((x:Int)+1)=y1 at s1 b_fn b_do b_let b_set;generalize aa L ((x:Int)+2)=y2 at s2 HU;obtain⟨t0,t1,t2,_⟩:=hX0.1;go_enter func90,ntmps90;go_upto_region 13 with fail;clear hB0b hcz;generalize w.alloc (.cells #[vn,vh,.bool K.lp] 75)=w1 at hB0 hE0 hX0 s0 s1 s2 hsb t0 t1 t2 ⊢;go_cut [] (fun wc=>bu c wc (some ⟨sb,off,none⟩) L vn vh K F1∧cX w.heap.size vn vh (.bool K.lp) wc∧az c w wc)
 case first =>
  have hp2a:(0:Int)≤(x:Int)+2:=by omega
  have hp2b:IntKind.i64.wrap ((x:Int)+2)=(x:Int)+2:=by rw[IntKind.wrap_i64];omega
  have hp2c:((x:Int)+2).toNat=x+2:=by omega
  first
   |go_region_with (first
     |(go_at_call 146;refine(HU.out w1.drew hE0).mono ?_;rintro r w8 ⟨rfl,hF8,hb8d⟩;have hb8:az c w1 w8:=hb8d))
   |fail
  all_goals go_wp2
  all_goals go_meet
  all_goals exact⟨hE0.but hb8 hF8,hX0.but hb8 (by have:=hE.lt;omega),hB0.trans hb8⟩
 case rest =>
 obtain⟨hEc,hXc,hBc⟩:=hcut;obtain⟨r0,r1,r2,_⟩:=hXc.1;go_wp2_with fail;refine(HC.out _ hEc).mono ?_;rintro r w9 ⟨rfl,hF9,hb9⟩;go_wp2;go_end0;exact⟨rfl,hF9,hBc.trans hb9⟩
theorem GO(hL:L.length≤2000)(x:Nat)(K:Kn)(F:Ot)(vn vh:Value)(w:World)(hE:bu c w a L vn vh K F)(hv:aH L x)(hkn:K.nm.length≤kb L (x:Int))(ho:ae (aa L x) [40]=false)(hw:aV (aa L x)=true)(hb:bZ F (df K (aa L x))) :
  ah 90 #[.pointer (some ⟨c,0,none⟩),.slice a L.length cap,.int .i64 x,.agg #[vn,vh,.bool K.lp]] w fun e w'=>e=.returned (.tuple #[])∧aY c w' (F.plus (df K (aa L x)))∧az c w w':=by
 have hve:=hv.ends;have hcz:=hE.lt;have hkt:=jD (L:=L) (i:=(x:Int)) hL (by omega);have hB0b:=ay (Below.refl w.heap.size w) (.cells #[vn,vh,.bool K.lp] 75);have hB0:=az.j (c:=c) hB0b;have hE0:=hE.call hB0b;have hX0:=gH w vn vh (.bool K.lp) 75;obtain⟨sb,off,rfl,s0,m0,hsb,_⟩:=hE0.2.1.at x (by omega);have b40:=aM ho;have HW:=aj hw;have HU:Hid (∀W:World,bu c W (some ⟨sb,off,none⟩) L vn vh K F→ah 146 #[.pointer (some ⟨c,0,none⟩),.agg #[vn,vh,.bool K.lp],.string (aa L x)] W fun e w'=>e=.returned (.tuple #[])∧aY c w' (F.plus (df K (aa L x)))∧az c W w'):=fun W hW=>Bb c F K vn vh _ W hW.1 hW.2.2.1 (by omega) hb.use m0
 clear hb hw ho;generalize F.plus (df K (aa L x))=F1 at HU ⊢;generalize aa L (x:Int)=y0 at s0 b40 HU HW m0;obtain⟨t0,t1,t2,_⟩:=hX0.1;go_enter func90,ntmps90;go_wp2_with fail;refine(po y0 _ m0).mono ?_;rintro r w2 ⟨rfl,hb2⟩;rw[HW.out];have hE2:=hE0.call hb2;have hX2:=hX0.call hb2;have hB2:=hB0.trans (az.j hb2);have s2:=(hb2.cell (p:=⟨sb,off+x,none⟩) hsb).trans s0;obtain⟨r0,r1,r2,_⟩:=hX2.1;clear hb2 hE0 hX0 hB0 hB0b s0 t0 t1 t2 hcz hsb;go_upto_region 3 with fail;have hp0:(0:Int)≤(x:Int):=by omega
 have hp1:(x:Int)<(L.length:Int):=by omega
 go_cut [] (fun wc=>aY c wc F1∧az c w wc)
 case first =>
  first
   |go_region_with (first
     |(go_at_call 146;refine(HU.out w2.drew hE2).mono ?_;rintro r w8 ⟨rfl,hF8,hb8d⟩;have hb8:az c w2 w8:=hb8d))
   |fail
  all_goals go_wp2
  all_goals go_meet
  all_goals exact⟨hF8,hB2.trans hb8⟩
 case rest =>
 obtain⟨hFc,hBc⟩:=hcut;go_wp2;refine bodyPost_ret (results_none rfl _ _ _) rfl ?_;exact⟨rfl,hFc,hBc⟩
theorem GU(x:Nat)(K:Kn)(F:Ot)(vn vh:Value)(w:World)(hE:bu c w a L vn vh K F)(hv:aH L x)(ho:ae (aa L x) [40]=false)(hw:aV (aa L x)=false) :
  ah 90 #[.pointer (some ⟨c,0,none⟩),.slice a L.length cap,.int .i64 x,.agg #[vn,vh,.bool K.lp]] w fun e w'=>e=.returned (.tuple #[])∧aY c w' (F.plus (Ot.none))∧az c w w':=by
 have hve:=hv.ends;have hcz:=hE.lt;have hB0b:=ay (Below.refl w.heap.size w) (.cells #[vn,vh,.bool K.lp] 75);have hB0:=az.j (c:=c) hB0b;have hE0:=hE.call hB0b;have hX0:=gH w vn vh (.bool K.lp) 75;obtain⟨sb,off,rfl,s0,m0,hsb,_⟩:=hE0.2.1.at x (by omega);have b40:=aM ho;have HW:=aj hw;clear hw ho;generalize aa L (x:Int)=y0 at s0 b40 HW m0;go_enter func90,ntmps90;go_wp2_with fail;refine(po y0 _ m0).mono ?_;rintro r w2 ⟨rfl,hb2⟩;rw[HW.out];go_wp2;refine bodyPost_ret (results_none rfl _ _ _) rfl ?_;exact⟨rfl,by rw[Ot.OO];exact(hE0.call hb2).1,hB0.trans (az.j hb2)⟩
end
section
variable {a:Option Addr} {cap:Nat} {L:af} {c n:Nat}
theorem GS(hIt:iP a cap L c n)(hBl:lH a cap L c n)(hL:L.length≤2000)(x:Nat)(K:Kn)(F:Ot)(vn vh:Value)(w:World)(hE:bu c w a L vn vh K F)(hv:aH L x)(hn:2*aB L (x:Int)≤n)(hkn:K.nm.length≤kb L (x:Int))(hkh:K.hd.length≤kb L (x:Int))(ho:ae (aa L x) [40]=true)(hw:ae (aa L ((x:Int)+1)) [116,97,107,101]=true)(hb:bZ F (wk L n 0 false (ag L ((x:Int)+2)) K)) :
  ah 90 #[.pointer (some ⟨c,0,none⟩),.slice a L.length cap,.int .i64 x,.agg #[vn,vh,.bool K.lp]] w fun e w'=>e=.returned (.tuple #[])∧aY c w' (F.plus (wk L n 0 false (ag L ((x:Int)+2)) K))∧az c w w':=by
 have hve:=hv.ends;have hcz:=hE.lt;have hkt:=jD (L:=L) (i:=(x:Int)) hL (by omega);have hB0b:=ay (Below.refl w.heap.size w) (.cells #[vn,vh,.bool K.lp] 75);have hB0:=az.j (c:=c) hB0b;have hE0:=hE.call hB0b;have hX0:=gH w vn vh (.bool K.lp) 75;obtain⟨_,q1,q2,q3⟩:=hv.OY ho hw;have qe:=q2.ends;have hfar:=dC (L:=L) (i:=(x:Int)) (j:=ag L ((x:Int)+2)) hve.1 (by omega) (by omega);have hku:=jE (L:=L) (i:=(x:Int)) (j:=ag L ((x:Int)+2)) hve.1 (by omega);obtain⟨sb,off,rfl,s0,_,hsb,_⟩:=hE0.2.1.at x (by omega);have b40:=aM ho;obtain⟨sb1,off1,ha1,s1,m1,_,_⟩:=hE0.2.1.at (x+1) (by omega);injection ha1 with ha1;injection ha1 with e1 f1 _;subst e1;subst f1;rw[show((x+1:Nat):Int)=(x:Int)+1 by omega]at s1 m1;have b_fn:=aC hw [102,110];have b_do:=aC hw [100,111];have b_let:=aC hw [108,101,116];have b_set:=aC hw [115,101,116];have b_take:=aM hw;have HC:Hid (∀W:World,bu c W (some ⟨sb,off,none⟩) L vn vh K F→ah 90 #[.pointer (some ⟨c,0,none⟩),.slice (some ⟨sb,off,none⟩) L.length cap,.int .i64 (ag L ((x:Int)+2)),.agg #[vn,vh,.bool K.lp]] W fun e w'=>e=.returned (.tuple #[])∧aY c w' (F.plus (wk L n 0 false (ag L ((x:Int)+2)) K))∧az c W w'):=fun W hW=>hIt _ K F vn vh W hW q2 (by omega) (by omega) (by omega) hb
 have HI:Hid (∀W:World,aD W (some ⟨sb,off,none⟩) L→ah 16 #[.slice (some ⟨sb,off,none⟩) L.length cap,.int .i64 ((x:Int)+2)] W (aA (.int .i64 (ag L ((x:Int)+2))) W)):=fun W hW=>dk _ cap L ((x:Int)+2) W hW (by omega) ⟨by omega,by omega⟩
 generalize F.plus (wk L n 0 false (ag L ((x:Int)+2)) K)=F1 at HC ⊢;clear hb hIt hBl q2 q3 hfar hku;generalize ag L ((x:Int)+2)=z at HC HI qe q1;generalize aa L ((x:Int))=y0 at s0 b40;generalize aa L ((x:Int)+1)=y1 at s1 b_fn b_do b_let b_set b_take;obtain⟨t0,t1,t2,_⟩:=hX0.1;go_enter func90,ntmps90;go_upto_region 16 with fail;clear hB0b hcz;generalize w.alloc (.cells #[vn,vh,.bool K.lp] 75)=w1 at hB0 hE0 hX0 s0 s1 hsb t0 t1 t2 ⊢;have hp2a:(0:Int)≤(x:Int)+2:=by omega
 have hp2b:IntKind.i64.wrap ((x:Int)+2)=(x:Int)+2:=by rw[IntKind.wrap_i64];omega
 have hp2c:((x:Int)+2).toNat=x+2:=by omega
 first
  |go_region_with (first
    |(go_at_call 16;refine(HI.out w1.drew hE0.2.1.arg).mono ?_;rintro r w8 ⟨rfl,hb8d⟩;have hb8:ai w1 w8:=⟨hb8d.os,hb8d.tape,hb8d.output,hb8d.size,hb8d.block⟩;have hE8:=hE0.call hb8;have hX8:=hX0.call hb8;obtain⟨v0,v1,v2,_⟩:=hX8.1)
    |(go_at_call 90;refine(HC.out w8 hE8).mono ?_;rintro r w9 ⟨rfl,hF9,hb9⟩))
  |fail
 all_goals go_wp2
 all_goals go_end0
 all_goals exact⟨rfl,hF9,(hB0.trans (az.j hb8)).trans hb9⟩
theorem GI(hIt:iP a cap L c n)(hL:L.length≤2000)(x:Nat)(K:Kn)(F:Ot)(vn vh:Value)(w:World)(hE:bu c w a L vn vh K F)(hv:aH L x)(hn:2*aB L (x:Int)≤n)(hkn:K.nm.length≤kb L (x:Int))(hkh:K.hd.length≤kb L (x:Int))(ho:ae (aa L x) [40]=true)(hw:ae (aa L ((x:Int)+1)) [104,103,101,116]=true)(hb:bZ F ((dw K (aa L ((x:Int)+2))).add (aW (fun p=>wk L n 0 false p K) (aT L ((x:Int)+3))))) :
  ah 90 #[.pointer (some ⟨c,0,none⟩),.slice a L.length cap,.int .i64 x,.agg #[vn,vh,.bool K.lp]] w fun e w'=>e=.returned (.tuple #[])∧aY c w' (F.plus ((dw K (aa L ((x:Int)+2))).add (aW (fun p=>wk L n 0 false p K) (aT L ((x:Int)+3)))))∧az c w w':=by
 have hve:=hv.ends;have hcz:=hE.lt;have hkt:=jD (L:=L) (i:=(x:Int)) hL (by omega);have hB0b:=ay (Below.refl w.heap.size w) (.cells #[vn,vh,.bool K.lp] 75);have hB0:=az.j (c:=c) hB0b;have hE0:=hE.call hB0b;have hX0:=gH w vn vh (.bool K.lp) 75;obtain⟨q0,_,kk,e,q1,q2,q3⟩:=hv.OQ ho _ hw (Or.inl rfl);have qs:=dH q2;have qc:=eX kk _ q1 qs.1;have hpl:=ef q1 qs.1 (by omega) (bP q2);rw[hpl]at hb ⊢;have hfar:=dC (L:=L) (i:=(x:Int)) (j:=(x:Int)+3) hve.1 (by omega) (by omega);have hku:=jE (L:=L) (i:=(x:Int)) (j:=(x:Int)+3) hve.1 (by omega);obtain⟨sb,off,rfl,s0,_,hsb,_⟩:=hE0.2.1.at x (by omega);have b40:=aM ho;obtain⟨sb1,off1,ha1,s1,m1,_,_⟩:=hE0.2.1.at (x+1) (by omega);injection ha1 with ha1;injection ha1 with e1 f1 _;subst e1;subst f1;rw[show((x+1:Nat):Int)=(x:Int)+1 by omega]at s1 m1;obtain⟨sb2,off2,ha2,s2,m2,_,_⟩:=hE0.2.1.at (x+2) (by omega);injection ha2 with ha2;injection ha2 with e2 f2 _;subst e2;subst f2;rw[show((x+2:Nat):Int)=(x:Int)+2 by omega]at s2 m2;have b_fn:=aC hw [102,110];have b_do:=aC hw [100,111];have b_let:=aC hw [108,101,116];have b_set:=aC hw [115,101,116];have b_take:=aC hw [116,97,107,101];have b_hget:=aM hw;rw[Ot.OM];have HU:Hid (∀W:World,bu c W (some ⟨sb,off,none⟩) L vn vh K F→ah 148 #[.pointer (some ⟨c,0,none⟩),.agg #[vn,vh,.bool K.lp],.string (aa L ((x:Int)+2))] W fun e w'=>e=.returned (.tuple #[])∧aY c w' (F.plus (dw K (aa L ((x:Int)+2))))∧az c W w'):=fun W hW=>A7 c F K vn vh _ W hW.1 hW.2.2.2 (by omega) hb.left.O9 m2
 have HC:Hid (∀W:World,bu c W (some ⟨sb,off,none⟩) L vn vh K (F.plus (dw K (aa L ((x:Int)+2))))→ah 149 #[.pointer (some ⟨c,0,none⟩),.slice (some ⟨sb,off,none⟩) L.length cap,.int .i64 ((x:Int)+3),.agg #[vn,vh,.bool K.lp]] W fun e w'=>e=.returned (.tuple #[])∧aY c w' ((F.plus (dw K (aa L ((x:Int)+2)))).plus (aW (fun p=>wk L n 0 false p K) (ar L kk ((x:Int)+3))))∧az c W w'):=fun W hW=>vP hIt hL _ e kk K _ vn vh W hW q1 qs.1 qs.2 q2 (by omega) (by omega) (by omega) hb.right
 clear hb hIt m1 m2 hpl;generalize F.plus (dw K (aa L ((x:Int)+2)))=F1 at HC HU ⊢;generalize F1.plus (aW (fun p=>wk L n 0 false p K) (ar L kk ((x:Int)+3)))=F2 at HC ⊢;generalize aa L ((x:Int))=y0 at s0 b40;generalize aa L ((x:Int)+1)=y1 at s1 b_fn b_do b_let b_set b_take b_hget;generalize aa L ((x:Int)+2)=y2 at s2 HU;obtain⟨t0,t1,t2,_⟩:=hX0.1;go_enter func90,ntmps90;go_upto_region 19 with fail;clear hB0b hcz;generalize w.alloc (.cells #[vn,vh,.bool K.lp] 75)=w1 at hB0 hE0 hX0 s0 s1 s2 hsb t0 t1 t2 ⊢;go_cut [] (fun wc=>bu c wc (some ⟨sb,off,none⟩) L vn vh K F1∧cX w.heap.size vn vh (.bool K.lp) wc∧az c w wc)
 case first =>
  have hp2a:(0:Int)≤(x:Int)+2:=by omega
  have hp2b:IntKind.i64.wrap ((x:Int)+2)=(x:Int)+2:=by rw[IntKind.wrap_i64];omega
  have hp2c:((x:Int)+2).toNat=x+2:=by omega
  first
   |go_region_with (first
     |(go_at_call 148;refine(HU.out w1.drew hE0).mono ?_;rintro r w8 ⟨rfl,hF8,hb8d⟩;have hb8:az c w1 w8:=hb8d))
   |fail
  all_goals go_wp2
  all_goals go_meet
  all_goals exact⟨hE0.but hb8 hF8,hX0.but hb8 (by have:=hE.lt;omega),hB0.trans hb8⟩
 case rest =>
 obtain⟨hEc,hXc,hBc⟩:=hcut;obtain⟨r0,r1,r2,_⟩:=hXc.1;go_wp2_with fail;refine(HC.out _ hEc).mono ?_;rintro r w9 ⟨rfl,hF9,hb9⟩;go_wp2;go_end0;exact⟨rfl,hF9,hBc.trans hb9⟩
theorem GK(hIt:iP a cap L c n)(hL:L.length≤2000)(x:Nat)(K:Kn)(F:Ot)(vn vh:Value)(w:World)(hE:bu c w a L vn vh K F)(hv:aH L x)(hn:2*aB L (x:Int)≤n)(hkn:K.nm.length≤kb L (x:Int))(hkh:K.hd.length≤kb L (x:Int))(ho:ae (aa L x) [40]=true)(hw:ae (aa L ((x:Int)+1)) [104,112,117,116]=true)(hb:bZ F ((dw K (aa L ((x:Int)+2))).add (aW (fun p=>wk L n 0 false p K) (aT L ((x:Int)+3))))) :
  ah 90 #[.pointer (some ⟨c,0,none⟩),.slice a L.length cap,.int .i64 x,.agg #[vn,vh,.bool K.lp]] w fun e w'=>e=.returned (.tuple #[])∧aY c w' (F.plus ((dw K (aa L ((x:Int)+2))).add (aW (fun p=>wk L n 0 false p K) (aT L ((x:Int)+3)))))∧az c w w':=by
 have hve:=hv.ends;have hcz:=hE.lt;have hkt:=jD (L:=L) (i:=(x:Int)) hL (by omega);have hB0b:=ay (Below.refl w.heap.size w) (.cells #[vn,vh,.bool K.lp] 75);have hB0:=az.j (c:=c) hB0b;have hE0:=hE.call hB0b;have hX0:=gH w vn vh (.bool K.lp) 75;obtain⟨q0,_,kk,e,q1,q2,q3⟩:=hv.OQ ho _ hw (Or.inr rfl);have qs:=dH q2;have qc:=eX kk _ q1 qs.1;have hpl:=ef q1 qs.1 (by omega) (bP q2);rw[hpl]at hb ⊢;have hfar:=dC (L:=L) (i:=(x:Int)) (j:=(x:Int)+3) hve.1 (by omega) (by omega);have hku:=jE (L:=L) (i:=(x:Int)) (j:=(x:Int)+3) hve.1 (by omega);obtain⟨sb,off,rfl,s0,_,hsb,_⟩:=hE0.2.1.at x (by omega);have b40:=aM ho;obtain⟨sb1,off1,ha1,s1,m1,_,_⟩:=hE0.2.1.at (x+1) (by omega);injection ha1 with ha1;injection ha1 with e1 f1 _;subst e1;subst f1;rw[show((x+1:Nat):Int)=(x:Int)+1 by omega]at s1 m1;obtain⟨sb2,off2,ha2,s2,m2,_,_⟩:=hE0.2.1.at (x+2) (by omega);injection ha2 with ha2;injection ha2 with e2 f2 _;subst e2;subst f2;rw[show((x+2:Nat):Int)=(x:Int)+2 by omega]at s2 m2;have b_fn:=aC hw [102,110];have b_do:=aC hw [100,111];have b_let:=aC hw [108,101,116];have b_set:=aC hw [115,101,116];have b_take:=aC hw [116,97,107,101];have b_hget:=aC hw [104,103,101,116];have b_hput:=aM hw;rw[Ot.OM];have HU:Hid (∀W:World,bu c W (some ⟨sb,off,none⟩) L vn vh K F→ah 148 #[.pointer (some ⟨c,0,none⟩),.agg #[vn,vh,.bool K.lp],.string (aa L ((x:Int)+2))] W fun e w'=>e=.returned (.tuple #[])∧aY c w' (F.plus (dw K (aa L ((x:Int)+2))))∧az c W w'):=fun W hW=>A7 c F K vn vh _ W hW.1 hW.2.2.2 (by omega) hb.left.O9 m2
 have HC:Hid (∀W:World,bu c W (some ⟨sb,off,none⟩) L vn vh K (F.plus (dw K (aa L ((x:Int)+2))))→ah 149 #[.pointer (some ⟨c,0,none⟩),.slice (some ⟨sb,off,none⟩) L.length cap,.int .i64 ((x:Int)+3),.agg #[vn,vh,.bool K.lp]] W fun e w'=>e=.returned (.tuple #[])∧aY c w' ((F.plus (dw K (aa L ((x:Int)+2)))).plus (aW (fun p=>wk L n 0 false p K) (ar L kk ((x:Int)+3))))∧az c W w'):=fun W hW=>vP hIt hL _ e kk K _ vn vh W hW q1 qs.1 qs.2 q2 (by omega) (by omega) (by omega) hb.right
 clear hb hIt m1 m2 hpl;generalize F.plus (dw K (aa L ((x:Int)+2)))=F1 at HC HU ⊢;generalize F1.plus (aW (fun p=>wk L n 0 false p K) (ar L kk ((x:Int)+3)))=F2 at HC ⊢;generalize aa L ((x:Int))=y0 at s0 b40;generalize aa L ((x:Int)+1)=y1 at s1 b_fn b_do b_let b_set b_take b_hget b_hput;generalize aa L ((x:Int)+2)=y2 at s2 HU;obtain⟨t0,t1,t2,_⟩:=hX0.1;go_enter func90,ntmps90;go_upto_region 19 with fail;clear hB0b hcz;generalize w.alloc (.cells #[vn,vh,.bool K.lp] 75)=w1 at hB0 hE0 hX0 s0 s1 s2 hsb t0 t1 t2 ⊢;go_cut [] (fun wc=>bu c wc (some ⟨sb,off,none⟩) L vn vh K F1∧cX w.heap.size vn vh (.bool K.lp) wc∧az c w wc)
 case first =>
  have hp2a:(0:Int)≤(x:Int)+2:=by omega
  have hp2b:IntKind.i64.wrap ((x:Int)+2)=(x:Int)+2:=by rw[IntKind.wrap_i64];omega
  have hp2c:((x:Int)+2).toNat=x+2:=by omega
  first
   |go_region_with (first
     |(go_at_call 148;refine(HU.out w1.drew hE0).mono ?_;rintro r w8 ⟨rfl,hF8,hb8d⟩;have hb8:az c w1 w8:=hb8d))
   |fail
  all_goals go_wp2
  all_goals go_meet
  all_goals exact⟨hE0.but hb8 hF8,hX0.but hb8 (by have:=hE.lt;omega),hB0.trans hb8⟩
 case rest =>
 obtain⟨hEc,hXc,hBc⟩:=hcut;obtain⟨r0,r1,r2,_⟩:=hXc.1;go_wp2_with fail;refine(HC.out _ hEc).mono ?_;rintro r w9 ⟨rfl,hF9,hb9⟩;go_wp2;go_end0;exact⟨rfl,hF9,hBc.trans hb9⟩
theorem GW(hIt:iP a cap L c n)(hL:L.length≤2000)(x:Nat)(K:Kn)(F:Ot)(vn vh:Value)(w:World)(hE:bu c w a L vn vh K F)(hv:aH L x)(hn:2*aB L (x:Int)≤n)(hkn:K.nm.length≤kb L (x:Int))(hkh:K.hd.length≤kb L (x:Int))(ho:ae (aa L x) [40]=true)(hw:ae (aa L ((x:Int)+1)) [119,104,105,108,101]=true)(hb:bZ F ((wk L n 0 false ((x:Int)+2) K).add (wk L n 0 false (ag L ((x:Int)+2)) (cj K true)))) :
  ah 90 #[.pointer (some ⟨c,0,none⟩),.slice a L.length cap,.int .i64 x,.agg #[vn,vh,.bool K.lp]] w fun e w'=>e=.returned (.tuple #[])∧aY c w' (F.plus ((wk L n 0 false ((x:Int)+2) K).add (wk L n 0 false (ag L ((x:Int)+2)) (cj K true))))∧az c w w':=by
 have hve:=hv.ends;have hcz:=hE.lt;have hkt:=jD (L:=L) (i:=(x:Int)) hL (by omega);have hB0b:=ay (Below.refl w.heap.size w) (.cells #[vn,vh,.bool K.lp] 75);have hB0:=az.j (c:=c) hB0b;have hE0:=hE.call hB0b;have hX0:=gH w vn vh (.bool K.lp) 75;obtain⟨q1,q2,q3⟩:=hv.O4 ho hw;have qe:=q1.ends;have qf:=q2.ends;have hfar:=dC (L:=L) (i:=(x:Int)) (j:=(x:Int)+2) hve.1 (by omega) (by omega);have hku:=jE (L:=L) (i:=(x:Int)) (j:=(x:Int)+2) hve.1 (by omega);have hfarz:=dC (L:=L) (i:=(x:Int)) (j:=ag L ((x:Int)+2)) hve.1 (by omega) (by omega);have hkuz:=jE (L:=L) (i:=(x:Int)) (j:=ag L ((x:Int)+2)) hve.1 (by omega);obtain⟨sb,off,rfl,s0,_,hsb,_⟩:=hE0.2.1.at x (by omega);have b40:=aM ho;obtain⟨sb1,off1,ha1,s1,m1,_,_⟩:=hE0.2.1.at (x+1) (by omega);injection ha1 with ha1;injection ha1 with e1 f1 _;subst e1;subst f1;rw[show((x+1:Nat):Int)=(x:Int)+1 by omega]at s1 m1;have b_fn:=aC hw [102,110];have b_do:=aC hw [100,111];have b_let:=aC hw [108,101,116];have b_set:=aC hw [115,101,116];have b_take:=aC hw [116,97,107,101];have b_hget:=aC hw [104,103,101,116];have b_hput:=aC hw [104,112,117,116];have b_hidden:=aC hw [104,105,100,100,101,110];have b_vars:=aC hw [118,97,114,115];have b_leave:=aC hw [108,101,97,118,101];have b_next:=aC hw [110,101,120,116];have b_while:=aM hw;rw[Ot.OM];have HA:Hid (∀W:World,bu c W (some ⟨sb,off,none⟩) L vn vh K F→ah 90 #[.pointer (some ⟨c,0,none⟩),.slice (some ⟨sb,off,none⟩) L.length cap,.int .i64 ((x:Int)+2),.agg #[vn,vh,.bool K.lp]] W fun e w'=>e=.returned (.tuple #[])∧aY c w' (F.plus (wk L n 0 false ((x:Int)+2) K))∧az c W w'):=fun W hW=>hIt _ K F vn vh W hW q1 (by omega) (by omega) (by omega) hb.left
 have HC:Hid (∀W:World,bu c W (some ⟨sb,off,none⟩) L vn vh (cj K true) (F.plus (wk L n 0 false ((x:Int)+2) K))→ah 90 #[.pointer (some ⟨c,0,none⟩),.slice (some ⟨sb,off,none⟩) L.length cap,.int .i64 (ag L ((x:Int)+2)),.agg #[vn,vh,.bool true]] W fun e w'=>e=.returned (.tuple #[])∧aY c w' ((F.plus (wk L n 0 false ((x:Int)+2) K)).plus (wk L n 0 false (ag L ((x:Int)+2)) (cj K true)))∧az c W w'):=fun W hW=>hIt _ (cj K true) _ vn vh W hW q2 (by omega) (by show K.nm.length≤_;omega) (by show K.hd.length≤_;omega) hb.right
 have HI:Hid (∀W:World,aD W (some ⟨sb,off,none⟩) L→ah 16 #[.slice (some ⟨sb,off,none⟩) L.length cap,.int .i64 ((x:Int)+2)] W (aA (.int .i64 (ag L ((x:Int)+2))) W)):=fun W hW=>dk _ cap L ((x:Int)+2) W hW (by omega) ⟨by omega,by omega⟩
 clear hb hIt q1 q2 q3 hfar hku hfarz hkuz m1;generalize F.plus (wk L n 0 false ((x:Int)+2) K)=F1 at HA HC ⊢;generalize F1.plus (wk L n 0 false (ag L ((x:Int)+2)) (cj K true))=F2 at HC ⊢;generalize ag L ((x:Int)+2)=z at HC HI qe qf;generalize aa L ((x:Int))=y0 at s0 b40;generalize aa L ((x:Int)+1)=y1 at s1 b_fn b_do b_let b_set b_take b_hget b_hput b_hidden b_vars b_leave b_next b_while;obtain⟨t0,t1,t2,_⟩:=hX0.1;go_enter func90,ntmps90;go_wp2_with fail;refine(HA.out _ hE0).mono ?_;rintro r w8 ⟨rfl,hF8,hb8⟩;have hX8:=hX0.but hb8 (by omega);have hB8:=hB0.trans hb8;have hLP:=hE.loop hF8 hX8 hB8 hcz;obtain⟨w9,hw9⟩:∃w9,w9=w8.setCell ⟨w.heap.size,2,none⟩ (.bool true):=⟨_,rfl⟩;rw[←hw9]at hLP;obtain⟨hE9,hX9,hB9⟩:=hLP;obtain⟨⟨r0,r1,r2,_⟩,f0,f1,f2⟩:=id hX8;clear hE0 hX0 hB0 hB0b s0 s1 t0 t1 t2 hb8 hsb;go_upto_region 29 with fail;rw[←hw9];clear hw9 r0 r1 r2 f0 f1 f2 hX8 hB8 hF8;obtain⟨r0,r1,r2,_⟩:=hX9.1;have hp2a:(0:Int)≤(x:Int)+2:=by omega
 have hp2b:IntKind.i64.wrap ((x:Int)+2)=(x:Int)+2:=by rw[IntKind.wrap_i64];omega
 have hp2c:((x:Int)+2).toNat=x+2:=by omega
 first
  |go_region_with (first
    |(go_at_call 16;refine(HI.out w9.drew hE9.2.1.arg).mono ?_;rintro r w18 ⟨rfl,hb18d⟩;have hb18:ai w9 w18:=⟨hb18d.os,hb18d.tape,hb18d.output,hb18d.size,hb18d.block⟩;have hE18:=hE9.call hb18;have hX18:=hX9.call hb18;obtain⟨z0,z1,z2,_⟩:=hX18.1)
    |(go_at_call 90;refine(HC.out w18 hE18).mono ?_;rintro r w19 ⟨rfl,hF19,hb19⟩))
  |fail
 all_goals go_wp2
 all_goals go_end0
 all_goals exact⟨rfl,hF19,(hB9.trans (az.j hb18)).trans hb19⟩
end
section
variable {a:Option Addr} {cap:Nat} {L:af} {c n:Nat}
theorem GQ(hIt:iP a cap L c n)(hL:L.length≤2000)(x:Nat)(K:Kn)(F:Ot)(vn vh:Value)(w:World)(hE:bu c w a L vn vh K F)(hv:aH L x)(hn:2*aB L (x:Int)≤n)(hkn:K.nm.length≤kb L (x:Int))(hkh:K.hd.length≤kb L (x:Int))(ho:ae (aa L x) [40]=true)(hx:x+1<L.length)(h_fn:ae (aa L ((x:Int)+1)) [102,110]=false)(h_do:ae (aa L ((x:Int)+1)) [100,111]=false)(h_let:ae (aa L ((x:Int)+1)) [108,101,116]=false)(h_set:ae (aa L ((x:Int)+1)) [115,101,116]=false)(h_take:ae (aa L ((x:Int)+1)) [116,97,107,101]=false)(h_hget:ae (aa L ((x:Int)+1)) [104,103,101,116]=false)(h_hput:ae (aa L ((x:Int)+1)) [104,112,117,116]=false)(h_hidden:ae (aa L ((x:Int)+1)) [104,105,100,100,101,110]=false)(h_vars:ae (aa L ((x:Int)+1)) [118,97,114,115]=false)(h_leave:ae (aa L ((x:Int)+1)) [108,101,97,118,101]=false)(h_next:ae (aa L ((x:Int)+1)) [110,101,120,116]=false)(h_while:ae (aa L ((x:Int)+1)) [119,104,105,108,101]=false)(h_for:ae (aa L ((x:Int)+1)) [102,111,114]=false)(hb:bZ F (aW (fun p=>wk L n 0 false p K) (aT L ((x:Int)+2)))) :
  ah 90 #[.pointer (some ⟨c,0,none⟩),.slice a L.length cap,.int .i64 x,.agg #[vn,vh,.bool K.lp]] w fun e w'=>e=.returned (.tuple #[])∧aY c w' (F.plus (aW (fun p=>wk L n 0 false p K) (aT L ((x:Int)+2))))∧az c w w':=by
 have hve:=hv.ends;have hcz:=hE.lt;have hkt:=jD (L:=L) (i:=(x:Int)) hL (by omega);have hB0b:=ay (Below.refl w.heap.size w) (.cells #[vn,vh,.bool K.lp] 75);have hB0:=az.j (c:=c) hB0b;have hE0:=hE.call hB0b;have hX0:=gH w vn vh (.bool K.lp) 75;obtain⟨kk,e,q1,q2,q3⟩:=hv.items ho h_fn h_do h_let h_set h_take h_hget h_hput h_hidden h_vars h_for;have qs:=dH q2;have qc:=eX kk _ q1 qs.1;have hpl:=ef q1 qs.1 (by omega) (bP q2);rw[hpl]at hb ⊢;have hfar:=dC (L:=L) (i:=(x:Int)) (j:=(x:Int)+2) hve.1 (by omega) (by omega);have hku:=jE (L:=L) (i:=(x:Int)) (j:=(x:Int)+2) hve.1 (by omega);obtain⟨sb,off,rfl,s0,_,hsb,_⟩:=hE0.2.1.at x (by omega);have b40:=aM ho;obtain⟨sb1,off1,ha1,s1,m1,_,_⟩:=hE0.2.1.at (x+1) (by omega);injection ha1 with ha1;injection ha1 with e1 f1 _;subst e1;subst f1;rw[show((x+1:Nat):Int)=(x:Int)+1 by omega]at s1 m1;have b_fn:=aM h_fn;have b_do:=aM h_do;have b_let:=aM h_let;have b_set:=aM h_set;have b_take:=aM h_take;have b_hget:=aM h_hget;have b_hput:=aM h_hput;have b_hidden:=aM h_hidden;have b_vars:=aM h_vars;have b_leave:=aM h_leave;have b_next:=aM h_next;have b_while:=aM h_while;have b_for:=aM h_for;have HC:Hid (∀W:World,bu c W (some ⟨sb,off,none⟩) L vn vh K F→ah 149 #[.pointer (some ⟨c,0,none⟩),.slice (some ⟨sb,off,none⟩) L.length cap,.int .i64 ((x:Int)+2),.agg #[vn,vh,.bool K.lp]] W fun e w'=>e=.returned (.tuple #[])∧aY c w' (F.plus (aW (fun p=>wk L n 0 false p K) (ar L kk ((x:Int)+2))))∧az c W w'):=fun W hW=>vP hIt hL _ e kk K _ vn vh W hW q1 qs.1 qs.2 q2 (by omega) (by omega) (by omega) hb
 clear hb hIt m1 hpl h_fn h_do h_let h_set h_take h_hget h_hput h_hidden h_vars h_leave h_next h_while h_for;generalize F.plus (aW (fun p=>wk L n 0 false p K) (ar L kk ((x:Int)+2)))=F1 at HC ⊢;generalize aa L ((x:Int))=y0 at s0 b40;generalize aa L ((x:Int)+1)=y1 at s1 b_fn b_do b_let b_set b_take b_hget b_hput b_hidden b_vars b_leave b_next b_while b_for;obtain⟨t0,t1,t2,_⟩:=hX0.1;go_enter func90,ntmps90;go_wp2_with fail;refine(HC.out _ hE0).mono ?_;rintro r w8 ⟨rfl,hF8,hb8⟩;go_wp2;go_end0;exact⟨rfl,hF8,hB0.trans hb8⟩
theorem GH(hIt:iP a cap L c n)(hL:L.length≤2000)(x:Nat)(K:Kn)(F:Ot)(vn vh:Value)(w:World)(hE:bu c w a L vn vh K F)(hv:aH L x)(hn:2*aB L (x:Int)≤n)(hkn:K.nm.length≤kb L (x:Int))(hkh:K.hd.length≤kb L (x:Int))(ho:ae (aa L x) [40]=true)(hw:ae (aa L ((x:Int)+1)) [102,111,114]=true)(hb:bZ F ((wk L n 0 false ((x:Int)+3) K).add ((wk L n 0 false (ag L ((x:Int)+3)) K).add (wk L n 0 false (ag L (ag L ((x:Int)+3))) (cz (cj K true) [aa L ((x:Int)+2)]))))) :
  ah 90 #[.pointer (some ⟨c,0,none⟩),.slice a L.length cap,.int .i64 x,.agg #[vn,vh,.bool K.lp]] w fun e w'=>e=.returned (.tuple #[])∧aY c w' (F.plus ((wk L n 0 false ((x:Int)+3) K).add ((wk L n 0 false (ag L ((x:Int)+3)) K).add (wk L n 0 false (ag L (ag L ((x:Int)+3))) (cz (cj K true) [aa L ((x:Int)+2)])))))∧az c w w':=by
 have hve:=hv.ends;have hcz:=hE.lt;have hkt:=jD (L:=L) (i:=(x:Int)) hL (by omega);have hB0b:=ay (Below.refl w.heap.size w) (.cells #[vn,vh,.bool K.lp] 75);have hB0:=az.j (c:=c) hB0b;have hE0:=hE.call hB0b;have hX0:=gH w vn vh (.bool K.lp) 75;obtain⟨i0,hi,hz0,hz1,hz2⟩:=info_parts Tryz.OJ;obtain⟨_,q0,q1,q2,q3,q4⟩:=hv.OZ ho hw;have qe:=q1.ends;have qf:=q2.ends;have qg:=q3.ends;have hfar:=dC (L:=L) (i:=(x:Int)) (j:=(x:Int)+3) hve.1 (by omega) (by omega);have hku:=jE (L:=L) (i:=(x:Int)) (j:=(x:Int)+3) hve.1 (by omega);have hfarz:=dC (L:=L) (i:=(x:Int)) (j:=ag L ((x:Int)+3)) hve.1 (by omega) (by omega);have hkuz:=jE (L:=L) (i:=(x:Int)) (j:=ag L ((x:Int)+3)) hve.1 (by omega);have hfary:=dC (L:=L) (i:=(x:Int)) (j:=ag L (ag L ((x:Int)+3))) hve.1 (by omega) (by omega);have hkuy:=jE (L:=L) (i:=(x:Int)) (j:=ag L (ag L ((x:Int)+3))) hve.1 (by omega);obtain⟨sb,off,rfl,s0,_,hsb,_⟩:=hE0.2.1.at x (by omega);have b40:=aM ho;obtain⟨sb1,off1,ha1,s1,m1,_,_⟩:=hE0.2.1.at (x+1) (by omega);injection ha1 with ha1;injection ha1 with e1 f1 _;subst e1;subst f1;rw[show((x+1:Nat):Int)=(x:Int)+1 by omega]at s1 m1;obtain⟨sb2,off2,ha2,s2,m2,_,_⟩:=hE0.2.1.at (x+2) (by omega);injection ha2 with ha2;injection ha2 with e2 f2 _;subst e2;subst f2;rw[show((x+2:Nat):Int)=(x:Int)+2 by omega]at s2 m2;have b_fn:=aC hw [102,110];have b_do:=aC hw [100,111];have b_let:=aC hw [108,101,116];have b_set:=aC hw [115,101,116];have b_take:=aC hw [116,97,107,101];have b_hget:=aC hw [104,103,101,116];have b_hput:=aC hw [104,112,117,116];have b_hidden:=aC hw [104,105,100,100,101,110];have b_vars:=aC hw [118,97,114,115];have b_leave:=aC hw [108,101,97,118,101];have b_next:=aC hw [110,101,120,116];have b_while:=aC hw [119,104,105,108,101];have b_for:=aM hw;rw[Ot.OM,Ot.OM];have HA:Hid (∀W:World,bu c W (some ⟨sb,off,none⟩) L vn vh K F→ah 90 #[.pointer (some ⟨c,0,none⟩),.slice (some ⟨sb,off,none⟩) L.length cap,.int .i64 ((x:Int)+3),.agg #[vn,vh,.bool K.lp]] W fun e w'=>e=.returned (.tuple #[])∧aY c w' (F.plus (wk L n 0 false ((x:Int)+3) K))∧az c W w'):=fun W hW=>hIt _ K F vn vh W hW q1 (by omega) (by omega) (by omega) hb.left
 have HA2:Hid (∀W:World,bu c W (some ⟨sb,off,none⟩) L vn vh K (F.plus (wk L n 0 false ((x:Int)+3) K))→ah 90 #[.pointer (some ⟨c,0,none⟩),.slice (some ⟨sb,off,none⟩) L.length cap,.int .i64 (ag L ((x:Int)+3)),.agg #[vn,vh,.bool K.lp]] W fun e w'=>e=.returned (.tuple #[])∧aY c w' ((F.plus (wk L n 0 false ((x:Int)+3) K)).plus (wk L n 0 false (ag L ((x:Int)+3)) K))∧az c W w'):=fun W hW=>hIt _ K _ vn vh W hW q2 (by omega) (by omega) (by omega) hb.right.left
 have HC:Hid (∀(vn2:Value) (W:World),bu c W (some ⟨sb,off,none⟩) L vn2 vh (cz (cj K true) [aa L ((x:Int)+2)]) ((F.plus (wk L n 0 false ((x:Int)+3) K)).plus (wk L n 0 false (ag L ((x:Int)+3)) K))→ah 90 #[.pointer (some ⟨c,0,none⟩),.slice (some ⟨sb,off,none⟩) L.length cap,.int .i64 (ag L (ag L ((x:Int)+3))),.agg #[vn2,vh,.bool true]] W fun e w'=>e=.returned (.tuple #[])∧aY c w' (((F.plus (wk L n 0 false ((x:Int)+3) K)).plus (wk L n 0 false (ag L ((x:Int)+3)) K)).plus (wk L n 0 false (ag L (ag L ((x:Int)+3))) (cz (cj K true) [aa L ((x:Int)+2)])))∧az c W w'):=fun vn2 W hW=>hIt _ (cz (cj K true) [aa L ((x:Int)+2)]) _ vn2 vh W hW q3 (by omega) (by show(K.nm++[_]).length≤_;rw[List.length_append,List.length_singleton];omega) (by show K.hd.length≤_;omega) hb.right.right
 have HI1:Hid (∀W:World,aD W (some ⟨sb,off,none⟩) L→ah 16 #[.slice (some ⟨sb,off,none⟩) L.length cap,.int .i64 ((x:Int)+3)] W (aA (.int .i64 (ag L ((x:Int)+3))) W)):=fun W hW=>dk _ cap L ((x:Int)+3) W hW (by omega) ⟨by omega,by omega⟩
 have HI:Hid (∀W:World,aD W (some ⟨sb,off,none⟩) L→ah 16 #[.slice (some ⟨sb,off,none⟩) L.length cap,.int .i64 (ag L ((x:Int)+3))] W (aA (.int .i64 (ag L (ag L ((x:Int)+3)))) W)):=fun W hW=>dk _ cap L (ag L ((x:Int)+3)) W hW (by omega) ⟨by omega,by omega⟩
 clear hb hIt q1 q2 q3 q4 hfar hku hfarz hkuz hfary hkuy m1;generalize F.plus (wk L n 0 false ((x:Int)+3) K)=F1 at HA HA2 HC ⊢;generalize F1.plus (wk L n 0 false (ag L ((x:Int)+3)) K)=F2 at HA2 HC ⊢;generalize F2.plus (wk L n 0 false (ag L (ag L ((x:Int)+3))) (cz (cj K true) [aa L ((x:Int)+2)]))=F3 at HC ⊢;generalize (ag L (ag L ((x:Int)+3)))=z2 at HC HI qf qg;generalize (ag L ((x:Int)+3))=z1 at HA2 HI HI1 qe qf;generalize aa L ((x:Int))=y0 at s0 b40;generalize aa L ((x:Int)+1)=y1 at s1 b_fn b_do b_let b_set b_take b_hget b_hput b_hidden b_vars b_leave b_next b_while b_for;obtain⟨sbw,offw,haw,sw,_,hsbw,hnew⟩:=hE.2.1.at (x+2) (by omega);injection haw with haw;injection haw with ew fw _;subst ew;subst fw;rw[show((x+2:Nat):Int)=(x:Int)+2 by omega]at sw;generalize aa L ((x:Int)+2)=yy at s2 m2 HC sw;obtain⟨t0,t1,t2,_⟩:=hX0.1;go_enter func90,ntmps90;go_wp2_with fail;refine(HI1.out _ hE0.2.1.arg).mono ?_;rintro r w2 ⟨rfl,hb2⟩;have hE2:=hE0.call hb2;have hX2:=hX0.call hb2;have hB2:=hB0.trans (az.j hb2);obtain⟨v0,v1,v2,_⟩:=hX2.1;go_wp2_with fail;refine(HA.out _ hE2).mono ?_;rintro r w3 ⟨rfl,hF3,hb3⟩;have hE3:=hE2.but hb3 hF3;have hX3:=hX2.but hb3 (by omega);have hB3:=hB2.trans hb3;obtain⟨p0,p1,p2,_⟩:=hX3.1;clear v0 v1 v2 hE2 hX2 hB2 hb3;go_wp2_with fail;refine(HA2.out _ hE3).mono ?_;rintro r w8 ⟨rfl,hF8,hb8⟩;have hX8:=hX3.but hb8 (by omega);have hB8:=hB3.trans hb8;have hLP:=hE.loop hF8 hX8 hB8 hcz;obtain⟨w9,hw9⟩:∃w9,w9=w8.setCell ⟨w.heap.size,2,none⟩ (.bool true):=⟨_,rfl⟩;rw[←hw9]at hLP;obtain⟨hE9,hX9,hB9⟩:=hLP;obtain⟨⟨r0,r1,r2,_⟩,f0,f1,f2⟩:=id hX8;clear hE0 hX0 hB0 hB0b s0 s1 s2 t0 t1 t2 hb8 hsb p0 p1 p2 hE3 hX3 hB3;go_upto_region 36 with fail;rw[←hw9];clear hw9 r0 r1 r2 f0 f1 f2 hX8 hB8 hF8;have s9:=(hB9.cell sb (off+(x+2)) hsbw hnew).trans sw;have hsb9:sb<w9.heap.size:=Nat.lt_of_lt_of_le hsbw hB9.2.2.2.1;have hlt9:=hX9.lt;have HT:Hid (∀W:World,bA c W vn K.nm→ah 89 #[vn] W (kf K.nm W)):=fun W hW=>ku c vn K.nm W hW (by omega)
 obtain⟨Z,hZ⟩:∃Z,Z=K.nm++[yy]:=⟨_,rfl⟩;have HZ:=aj hZ;clear hZ;have hcc2:∀v∈[Value.string yy],v.oneCell'=true:=fun v hu=>by simp at hu;subst hu;rfl
 have hc3:K.nm.length+1≤maxLen:=by unfold maxLen;omega
 have hc4:(K.nm.length+1)*16≤140737488355328:=by omega
 have hLa:bA c (w9.drew.alloc (.cells #[.string yy] 9)) vn K.nm:=(show bA c w9.drew vn K.nm from hE9.2.2.1).call (ay (Below.refl _ _) _);have hBa:ai w9 (w9.drew.alloc (.cells #[.string yy] 9)):=ay (show ai w9 w9.drew from⟨rfl,rfl,rfl,Nat.le_refl _,fun _ _=>rfl⟩) _;go_cut [] (fun wc=>∃vn2,bu c wc (some ⟨sb,off,none⟩) L vn2 vh (cz (cj K true) [yy]) F2∧cX w.heap.size vn2 vh (.bool true) wc∧az c w wc)
 case first =>
  obtain⟨⟨r0,r1,r2,_⟩,f0,f1,f2⟩:=id hX9;have hp2a:(0:Int)≤(x:Int)+2:=by omega
  have hp2b:IntKind.i64.wrap ((x:Int)+2)=(x:Int)+2:=by rw[IntKind.wrap_i64];omega
  have hp2c:((x:Int)+2).toNat=x+2:=by omega
  go_region_law (first
     |(refine Dd rfl (.tmp 159) (.tmp 165) 22 rfl w9.heap.size 9 i0 (.string ⟨#[]⟩) 1 16 Tryz.underlying22 hi hz0 hz1 hz2 rfl (by decide) (.slice (some ⟨g10,0,none⟩) K.nm.length cp10) K.nm.length (K.nm.map Value.string) (by simp[Act.eval]) (World.ownsRow.alloc hQ10.1 _) ⟨w10.heap.size,0,none⟩ 1 1 [.string yy] (by simp[Act.eval]) rfl hccA hcc2 hc3 hc4 hc5 ?_;intro v32 w4 hown' hgrow hnil;have hQ4:a8 w4 w9.heap.size v32 Z:=(by rw[HZ.out];refine⟨?_,fun er=>?_⟩;(unfold dq;rw[List.map_append,List.length_append];exact hown');(simp[er]at hnil));have hb4:ai w9 w4:=(ay hb10 _).grown hgrow hc5 (fun k hk=>(World.ownsRow.lt hQ10.1 k hk).1);obtain⟨g4,cp4,rfl⟩:=hQ4.shape;obtain⟨⟨k0,k1,k2,_⟩,kf0,_,_⟩:=id (hX9.call hb4);clear hown' hgrow hnil)
     |(refine Dd rfl (.tmp 159) (.tmp 165) 22 rfl w9.heap.size 9 i0 (.string ⟨#[]⟩) 1 16 Tryz.underlying22 hi hz0 hz1 hz2 rfl (by decide) (.slice (some ⟨g10,0,none⟩) K.nm.length cp10) K.nm.length (K.nm.map Value.string) (by simp[Act.eval]) hQ10.1 ⟨w9.heap.size,0,none⟩ 1 1 [.string yy] (by simp[Act.eval]) rfl hccB hcc2 hc3 hc4 hc5 ?_;intro v32 w4 hown' hgrow hnil;have hQ4:a8 w4 w9.heap.size v32 Z:=(by rw[HZ.out];refine⟨?_,fun er=>?_⟩;(unfold dq;rw[List.map_append,List.length_append];exact hown');(simp[er]at hnil));have hb4:ai w9 w4:=hb10.grown hgrow hc5 (fun k hk=>(World.ownsRow.lt hQ10.1 k hk).1);obtain⟨g4,cp4,rfl⟩:=hQ4.shape;obtain⟨⟨k0,k1,k2,_⟩,kf0,_,_⟩:=id (hX9.call hb4);clear hown' hgrow hnil)
     |(go_simp;go_wp2_with (go_at_call 89;first
       |(refine(HT.out w9.drew hE9.2.2.1).mono ?_;rintro r w10 ⟨v10,rfl,hQd,hb10d⟩;have hQ10:a8 w10 w9.heap.size v10 K.nm:=hQd;have hb10:ai w9 w10:=⟨hb10d.os,hb10d.tape,hb10d.output,hb10d.size,hb10d.block⟩;have s10:=(hb10.cell (p:=⟨sb,off+(x+2),none⟩) hsb9).trans s9;obtain⟨g10,cp10,rfl⟩:=hQ10.shape;have hccA:=BK w10 yy 9;have hc5:w9.heap.size≤(w10.alloc (.cells #[.string yy] 9)).heap.size:=(by have:=hb10.size;simp;omega);clear hQd hb10d)
       |(refine(HT.out (w9.drew.alloc (.cells #[.string yy] 9)) hLa).mono ?_;rintro r w10 ⟨v10,rfl,hQd,hb10d⟩;have hQ10:a8 w10 w9.heap.size v10 K.nm:=⟨mc hQd.1 (by simp),hQd.2⟩;have hb10:ai w9 w10:=aw hBa hb10d;obtain⟨g10,cp10,rfl⟩:=hQ10.shape;have hccB:=Je w9.drew yy 9 hb10d;have hc5:w9.heap.size≤w10.heap.size:=hb10.size;clear hQd hb10d))))
  all_goals go_wp2
  all_goals go_meet
  all_goals exact⟨_,hE.more hE9 hX9 hB9 hcz (HZ.out▸hQ4) hb4 m2⟩
 case rest =>
 obtain⟨vn2,hEc,hXc,hBc⟩:=hcut;obtain⟨r0,r1,r2,_⟩:=hXc.1;go_upto_region 37 with fail
 first
  |go_region_with (first
    |(go_at_call 16;refine(HI.out wc.drew hEc.2.1.arg).mono ?_;rintro r w18 ⟨rfl,hb18d⟩;have hb18:ai wc w18:=⟨hb18d.os,hb18d.tape,hb18d.output,hb18d.size,hb18d.block⟩;have hE18:=hEc.call hb18;have hX18:=hXc.call hb18;obtain⟨z0,z1,z2,_⟩:=hX18.1)
    |(go_at_call 90;refine(HC.out vn2 w18 hE18).mono ?_;rintro r w19 ⟨rfl,hF19,hb19⟩))
  |fail
 all_goals go_wp2
 all_goals go_end0
 all_goals exact⟨rfl,hF19,(hBc.trans (az.j hb18)).trans hb19⟩
end
section
variable {a:Option Addr} {cap:Nat} {L:af} {c n:Nat}
theorem Gc{i:Int}(h:aH L i)(ho:ae (aa L i) [40]=true):i+1<(L.length:Int):=by
 obtain⟨w,g,hw,hg,_,_⟩:=h.form ho;have h0:=bF ho;refine Decidable.byContradiction fun hn=>?_
 have e:aa L (i+1)=⟨#[]⟩:=fZ (by omega);rw[e,ByteArray.toList_eq]at hg;have e1:cP [] 1=none:=rfl;have e3:cP [] 3=none:=rfl;rcases hw with rfl|rfl
 ·exact absurd (e1.symm.trans hg) (by simp)
 ·exact absurd (e3.symm.trans hg) (by simp)
theorem Ht(hIt:iP a cap L c n)(hBl:lH a cap L c n)(hL:L.length≤2000):iP a cap L c (n+1):=fun i K F vn vh w hE hv hn hkn hkh hb=>by
 obtain⟨x,rfl⟩:∃x:Nat,i=(x:Int):=⟨i.toNat,by have:=hv.ends;omega⟩;have hn':2*aB L (x:Int)≤n:=by omega
 have hb':bZ F (cH L (wk L n) (x:Int) K):=hb;show Calls _ _ _ _ fun e w'=>e=.returned (.tuple #[])∧aY c w' (F.plus (cH L (wk L n) (x:Int) K))∧az c w w'
 unfold cH at hb' ⊢;by_cases ho:ae (aa L x) [40]=false
 ·rw[if_pos ho]at hb' ⊢;by_cases hw:aV (aa L x)=true
  ·rw[if_pos hw]at hb' ⊢;exact GO hL x K F vn vh w hE hv hkn ho hw hb'
  ·rw[if_neg hw];exact GU x K F vn vh w hE hv ho (by simpa using hw)
 rw[if_neg ho]at hb' ⊢;rw[Bool.not_eq_false]at ho;have hx:x+1<L.length:=by have:=Gc hv ho;omega
 by_cases h_fn:ae (aa L ((x:Int)+1)) [102,110]=true
 ·rw[if_pos h_fn]at hb' ⊢;exact GG hIt hBl hL x K F vn vh w hE hv hn' hkn hkh ho h_fn hx hb'
 rw[if_neg h_fn]at hb' ⊢;by_cases h_do:ae (aa L ((x:Int)+1)) [100,111]=true
 ·rw[if_pos h_do]at hb' ⊢;exact GF hIt hBl hL x K F vn vh w hE hv hn' hkn hkh ho h_do hb'
 rw[if_neg h_do]at hb' ⊢;by_cases h_let:ae (aa L ((x:Int)+1)) [108,101,116]=true
 ·rw[if_pos h_let]at hb' ⊢;exact GN hIt hBl hL x K F vn vh w hE hv hn' hkn hkh ho h_let hb'
 rw[if_neg h_let]at hb' ⊢;by_cases h_set:ae (aa L ((x:Int)+1)) [115,101,116]=true
 ·rw[if_pos h_set]at hb' ⊢;exact GR hIt hBl hL x K F vn vh w hE hv hn' hkn hkh ho h_set hb'
 rw[if_neg h_set]at hb' ⊢;by_cases h_take:ae (aa L ((x:Int)+1)) [116,97,107,101]=true
 ·rw[if_pos h_take]at hb' ⊢;exact GS hIt hBl hL x K F vn vh w hE hv hn' hkn hkh ho h_take hb'
 rw[if_neg h_take]at hb' ⊢;by_cases h_hget:ae (aa L ((x:Int)+1)) [104,103,101,116]=true
 ·rw[if_pos (by rw[h_hget];rfl)]at hb' ⊢;exact GI hIt hL x K F vn vh w hE hv hn' hkn hkh ho h_hget hb'
 by_cases h_hput:ae (aa L ((x:Int)+1)) [104,112,117,116]=true
 ·rw[if_pos (by rw[h_hput,Bool.or_true])]at hb' ⊢;exact GK hIt hL x K F vn vh w hE hv hn' hkn hkh ho h_hput hb'
 rw[if_neg (by simp only[Bool.or_eq_true,not_or];exact⟨h_hget,h_hput⟩)]at hb' ⊢;by_cases h_hidden:ae (aa L ((x:Int)+1)) [104,105,100,100,101,110]=true
 ·rw[if_pos (by rw[h_hidden];rfl)];exact GJ hL x K F vn vh w hE hv ho h_hidden hx
 by_cases h_vars:ae (aa L ((x:Int)+1)) [118,97,114,115]=true
 ·rw[if_pos (by rw[h_vars,Bool.or_true])];exact GV hL x K F vn vh w hE hv ho h_vars hx
 rw[if_neg (by simp only[Bool.or_eq_true,not_or];exact⟨h_hidden,h_vars⟩)]at hb' ⊢;by_cases h_leave:ae (aa L ((x:Int)+1)) [108,101,97,118,101]=true
 ·rw[if_pos (by rw[h_leave];rfl)];exact GM hL x K F vn vh w hE hv ho h_leave hx
 by_cases h_next:ae (aa L ((x:Int)+1)) [110,101,120,116]=true
 ·rw[if_pos (by rw[h_next,Bool.or_true])];exact GP hL x K F vn vh w hE hv ho h_next hx
 rw[if_neg (by simp only[Bool.or_eq_true,not_or];exact⟨h_leave,h_next⟩)]at hb' ⊢;by_cases h_while:ae (aa L ((x:Int)+1)) [119,104,105,108,101]=true
 ·rw[if_pos h_while]at hb' ⊢;exact GW hIt hL x K F vn vh w hE hv hn' hkn hkh ho h_while hb'
 rw[if_neg h_while]at hb' ⊢;by_cases h_for:ae (aa L ((x:Int)+1)) [102,111,114]=true
 ·rw[if_pos h_for]at hb' ⊢;exact GH hIt hL x K F vn vh w hE hv hn' hkn hkh ho h_for hb'
 rw[if_neg h_for]at hb' ⊢;simp only[Bool.not_eq_true]at h_fn h_do h_let h_set h_take h_hget h_hput h_hidden h_vars h_leave h_next h_while h_for;exact GQ hIt hL x K F vn vh w hE hv hn' hkn hkh ho hx h_fn h_do h_let h_set h_take h_hget h_hput h_hidden h_vars h_leave h_next h_while h_for hb'
end
theorem tX{a:Option Addr}{cap:Nat}{L:af}{c:Nat}(hL:L.length≤2000):∀n,iP a cap L c n∧lH a cap L c n
 |0=>⟨fun i K F vn vh w _ _ hn=>absurd hn (by omega),fun v i e k K F vn vh w _ _ _ _ _ hn=>absurd hn (by omega)⟩
 |n+1=>⟨Ht (tX hL n).1 (tX hL n).2 hL,Hn (tX hL n).1 hL⟩
theorem Ea{c:Nat}{w w2 w3:World}(h:ai w w2)(hb:az c w2 w3)(hc:w.heap.size≤c):ai w w3 :=
 ⟨hb.1.trans h.os,hb.2.1.trans h.tape,hb.2.2.1.trans h.output,Nat.le_trans h.size hb.2.2.2.1,fun k hk=>(hb.2.2.2.2 k (Nat.lt_of_lt_of_le hk h.size) (by omega)).trans (h.block k hk)⟩
theorem gy{L:af}(h:aR L=true):L.length≤2000:=by
 unfold aR at h;rw[Bool.and_eq_true]at h;exact of_decide_eq_true h.1
theorem bA.shape{c:Nat}{w:World}{v:Value}{X:af}(h:bA c w v X):∃av nv cv,v=.slice av nv cv∧nv=X.length:=by
 rcases h with⟨hv,hx⟩|⟨sb,off,cap,hv,_⟩
 ·exact⟨_,_,_,hv,by rw[hx];rfl⟩
 ·exact⟨_,_,_,hv,rfl⟩
noncomputable def fS(L:af):Ot:=Ot.none.plus (eO L)
theorem Hq(a:Option Addr)(cap:Nat)(L:af)(w:World)(h:aD w a L)(hp:aR L=true) :
  ah 26 #[.slice a L.length cap] w fun e w'=>∃vf vs,e=.returned (.agg #[vf,vs,.bool (fS L).bad])∧bA (w.heap.size+1) w' vf (fS L).fr∧bA (w.heap.size+1) w' vs (fS L).sc∧ai w w':=by
 have hL:=gy hp;obtain⟨k,hk⟩:=mX hp;have hcap:=Fm hp;obtain⟨w1,hw1⟩:∃w1,w1=w.alloc (.cells #[.slice none 0 0,.slice none 0 0,.bool false] 45):=⟨_,rfl⟩;have hs1:w1.heap.size=w.heap.size+1:=by rw[hw1];simp
 obtain⟨w2,hw2⟩:∃w2,w2=w1.alloc (.cells #[.slice none 0 0,.slice none 0 0,.bool false] 45):=⟨_,rfl⟩;have hBw1:ai w w1:=by rw[hw1];exact ay (Below.refl _ _) _
 have hBw2:ai w w2:=by rw[hw2];exact ay hBw1 _
 have hX1:cX w.heap.size (.slice none 0 0) (.slice none 0 0) (.bool false) w1:=by rw[hw1];exact gH w _ _ _ _
 have hB12:ai w1 w2:=by rw[hw2];exact ay (Below.refl _ _) _
 have hX2:=hX1.call hB12;have hF2:aY (w.heap.size+1) w2 Ot.none:=by
  obtain⟨⟨b0,b1,b2,hlt⟩,f0,f1,f2⟩:=gH w1 (.slice none 0 0) (.slice none 0 0) (.bool false) 45;rw[←hw2,hs1]at b0 b1 b2 hlt f0 f1 f2;exact⟨_,_,b0,b1,b2,Or.inl ⟨rfl,rfl⟩,Or.inl ⟨rfl,rfl⟩,f0,f1,f2,hlt⟩
 have hE2:bu (w.heap.size+1) w2 a L (.slice none 0 0) (.slice none 0 0) ⟨[],[],false⟩ Ot.none:=by
  refine⟨hF2,fun i hi=>?_,Or.inl ⟨rfl,rfl⟩,Or.inl ⟨rfl,rfl⟩⟩;obtain⟨sb,off,ha,hs,hc,hm⟩:=h i hi;exact⟨sb,off,ha,Nat.lt_of_lt_of_le hs hBw2.size,by omega,(hBw2.cell (p:=⟨sb,off+i,none⟩) hs).trans hc,hm⟩
 have HC:Hid (ah 48 #[.pointer (some ⟨w.heap.size+1,0,none⟩),.slice a L.length cap,.int .i64 0,.agg #[.slice none 0 0,.slice none 0 0,.bool false],.bool true] w2 fun e w'=>e=.returned (.tuple #[])∧aY (w.heap.size+1) w' (fS L)∧az (w.heap.size+1) w2 w') :=
  (tX (a:=a) (cap:=cap) (c:=w.heap.size+1) hL (8*L.length+40)).2 true 0 (L.length:Int) k ⟨[],[],false⟩ Ot.none _ _ w2 hE2 hk (Or.inl rfl) (by omega) (Int.le_refl _) (by unfold aB;split<;>omega) (by show 0+(L.length+1)≤kb L 0;unfold kb;simp) (by show 0+(L.length+1)≤kb L 0;unfold kb;simp) (by
   show bZ Ot.none (eO L);unfold bZ;obtain⟨c1,c2⟩:=hcap;have e1:Ot.none.fr.length=0:=rfl;have e2:Ot.none.sc.length=0:=rfl;omega)
 have hne:w.heap.size≠w.heap.size+1:=by omega
 clear hE2 hF2 hB12 hcap hk hp;go_enter func26,ntmps26;go_upto_region 2 with fail;rw[←hw1,←hw2];clear hw1 hw2 hs1;go_wp2_with fail;refine HC.out.mono ?_;rintro r w3 ⟨rfl,hF3,hb3⟩;have hX3:=hX2.but hb3 hne;have hB3:=Ea hBw2 hb3 (Nat.le_succ _);obtain⟨vf,vs,c0,c1,c2,l0,l1,_⟩:=id hF3;obtain⟨avf,nvf,cvf,rfl⟩:∃av nv cv,vf=.slice av nv cv:=by
  rcases l0 with⟨hv,_⟩|⟨sb,off,cap,hv,_⟩
  ·exact⟨_,_,_,hv⟩
  ·exact⟨_,_,_,hv⟩
 obtain⟨avs,nvs,cvs,rfl⟩:∃av nv cv,vs=.slice av nv cv:=by
  rcases l1 with⟨hv,_⟩|⟨sb,off,cap,hv,_⟩
  ·exact⟨_,_,_,hv⟩
  ·exact⟨_,_,_,hv⟩
 have nt:∀(a:Option Addr) (n c:Nat) (s:ByteArray),Value.slice a n c≠.string s:=fun _ _ _ _ e=>by cases e
 have nb:∀(b:Bool) (s:ByteArray),Value.bool b≠.string s:=fun _ _ e=>by cases e
 have hY1:=hX3.O0 (.slice avf nvf cvf);have hY2:=hY1.Pd (.slice avs nvs cvs);have hY3:=hY2.O3 (.bool (fS L).bad);have hLf:=((l0.OP (u:=.slice avf nvf cvf) hX3.1.1 (nt _ _ _)).OP (u:=.slice avs nvs cvs) hY1.1.2.1 (nt _ _ _)).OP (u:=.bool (fS L).bad) hY2.1.2.2.1 (nb _);have hLs:=((l1.OP (u:=.slice avf nvf cvf) hX3.1.1 (nt _ _ _)).OP (u:=.slice avs nvs cvs) hY1.1.2.1 (nt _ _ _)).OP (u:=.bool (fS L).bad) hY2.1.2.2.1 (nb _);have hB4:=bf (bf (bf hB3 (p:=⟨w.heap.size,0,none⟩) (.slice avf nvf cvf) (Nat.le_refl _)) (p:=⟨w.heap.size,1,none⟩) (.slice avs nvs cvs) (Nat.le_refl _)) (p:=⟨w.heap.size,2,none⟩) (.bool (fS L).bad) (Nat.le_refl _);obtain⟨⟨r0,r1,r2,_⟩,f0,f1,f2⟩:=id hX3;obtain⟨⟨z0,z1,z2,_⟩,_,_,_⟩:=id hY3;go_wp2;refine bodyPost_ret (v:=.agg #[.slice avf nvf cvf,.slice avs nvs cvs,.bool (fS L).bad]) (by simp[results,Tryz.results26,go_sem,z0,z1,z2]) rfl ?_;exact⟨_,_,rfl,hLf,hLs,hB4⟩
noncomputable def iO(L:af):Bool:=aR L&&((fS L).fr.isEmpty&&((fS L).sc.isEmpty&&!(fS L).bad))
theorem CZ(a:Option Addr)(cap:Nat)(L:af)(w:World)(h:aD w a L)(hL:L.length≤1048576) :
  ah 11 #[.slice a L.length cap] w (aA (.bool (iO L)) w):=by
 cases hp:aR L
 ·have HP:=aj hp;have HE:=aj (by unfold iO;rw[hp];rfl:iO L=false);clear hp;go_enter func11,ntmps11;go_wp2_with fail;refine(rm a cap L _ h hL).mono ?_;rintro r w1 ⟨rfl,hb1⟩;rw[HP.out];go_wp2;go_ret;exact⟨by rw[HE.out];rfl,hb1⟩
 ·have HP:=aj hp;have HE:=aj (by unfold iO;rw[hp];rfl:iO L=((fS L).fr.isEmpty&&((fS L).sc.isEmpty&&!(fS L).bad)));clear hp;have HK:Hid (∀(W:World),aD W a L→ah 26 #[.slice a L.length cap] W fun e w'=>∃av nv cv bv mv dv,e=.returned (.agg #[.slice av nv cv,.slice bv mv dv,.bool (fS L).bad])∧nv=(fS L).fr.length∧mv=(fS L).sc.length∧ai W w'):=fun W hW=>(Hq a cap L W hW HP.out).mono (by
   rintro r w2 ⟨vf,vs,rfl,hf,hs,hb2⟩;obtain⟨avf,nvf,cvf,rfl,e1⟩:=hf.shape;obtain⟨avs,nvs,cvs,rfl,e2⟩:=hs.shape;exact⟨_,_,_,_,_,_,rfl,e1,e2,hb2⟩)
  rw[HE.out];clear HE;generalize (fS L).fr=X at *;generalize (fS L).sc=Y at *;generalize (fS L).bad=b at *;cases X with
  |cons x X =>
   go_enter func11,ntmps11;go_wp2_with fail;refine(rm a cap L _ h hL).mono ?_;rintro r w1 ⟨rfl,hb1⟩;rw[HP.out];go_wp2_with fail;refine(HK.out _ (h.call hb1)).mono ?_;rintro r w2 ⟨av,nv,cv,bv,mv,dv,rfl,e1,e2,hb2⟩;have hB2:=aw hb1 hb2;have hn0:((nv:Int)==0)=false:=by rw[e1,List.length_cons];simp;omega
   clear e1 e2;go_wp2;go_ret;exact⟨rfl,by repeat' (first|(with_reducible exact Below.refl _ _)|(with_reducible exact hB2)|(with_reducible refine ay ?_ _)|(with_reducible refine bf ?_ _ ?_)|go_size)⟩
  |nil =>
  cases Y with
  |cons y Y =>
   go_enter func11,ntmps11;go_wp2_with fail;refine(rm a cap L _ h hL).mono ?_;rintro r w1 ⟨rfl,hb1⟩;rw[HP.out];go_wp2_with fail;refine(HK.out _ (h.call hb1)).mono ?_;rintro r w2 ⟨av,nv,cv,bv,mv,dv,rfl,e1,e2,hb2⟩;have hB2:=aw hb1 hb2;obtain rfl:nv=0:=e1;have hn0:((mv:Int)==0)=false:=by rw[e2,List.length_cons];simp;omega
   clear e2;go_wp2;go_ret;exact⟨rfl,by repeat' (first|(with_reducible exact Below.refl _ _)|(with_reducible exact hB2)|(with_reducible refine ay ?_ _)|(with_reducible refine bf ?_ _ ?_)|go_size)⟩
  |nil =>
   go_enter func11,ntmps11;go_wp2_with fail;refine(rm a cap L _ h hL).mono ?_;rintro r w1 ⟨rfl,hb1⟩;rw[HP.out];go_wp2_with fail;refine(HK.out _ (h.call hb1)).mono ?_;rintro r w2 ⟨av,nv,cv,bv,mv,dv,rfl,e1,e2,hb2⟩;have hB2:=aw hb1 hb2;obtain rfl:nv=0:=e1;obtain rfl:mv=0:=e2;go_wp2;go_ret;exact⟨rfl,by repeat' (first|(with_reducible exact Below.refl _ _)|(with_reducible exact hB2)|(with_reducible refine ay ?_ _)|(with_reducible refine bf ?_ _ ?_)|go_size)⟩
end Go.Proofs.YtdojfommmpnbgaaGreatDoor
