import Derived.Test.YtdojfommmpnbgaaGreatDoorKBO
import Derived.Test.YtdojfommmpnbgaaGreatDoorKAW
import Derived.Test.YtdojfommmpnbgaaGreatDoorKAM
import Derived.RangeFuncBox
set_option maxHeartbeats 4000000
namespace Go.Proofs.YtdojfommmpnbgaaGreatDoor
open Go.RowKit Go.Proofs.Tryz
theorem bA.grown{c:Nat}{w w':World}{v:Value}{X:af}{row:Option Nat}(h:bA c w v X)(hg:w.grownBy w' row)(hne:∀sb off n cp,v=.slice (some ⟨sb,off,none⟩) n cp→row≠some sb):bA c w' v X:=by
 rcases h with h|⟨sb,off,cap,hv,h1,h2,h3,h4,h5⟩
 ·exact Or.inl h
 ·refine Or.inr ⟨sb,off,cap,hv,h1,h2,Nat.lt_of_lt_of_le h3 hg.size,h4,fun i hi=>⟨?_,(h5 i hi).2⟩⟩;refine(World.cell?_of_block (w:=w) (a:=⟨sb,off+i,none⟩) ?_).trans (h5 i hi).1;exact hg.block sb h3 (fun e=>hne sb off _ _ hv e.symm)
theorem Az(u:Nat):Lib.itoa (u:Int)=Lib.decDigits u:=by unfold Lib.itoa;rw[if_neg (by omega)];simp
theorem K3(X Y:af)(s:ByteArray):dp X (Y++[s])=cN (dp X Y) s:=by rw[CA];rfl
theorem uR{L:af}{k:Nat}(h:k<L.length):(L.take (k+1)).filter bt=(L.take k).filter bt++(if bt L[k]then [L[k]]else []):=by
 rw[List.take_succ_eq_append_getElem h,List.filter_append];congr 1;cases hq:bt L[k]<;>simp[hq]
theorem zM(L:af)(k:Nat):(dp [] ((L.take k).filter bt)).length≤L.length:=by
 have h1:=tB ((L.take k).filter bt) [];have h2:=List.length_filter_le bt (L.take k);rw[List.length_take]at h2;simp only[List.length_nil]at h1;omega
theorem wm(L:af):(bJ L).length≤L.length:=by
 have:=zM L L.length;rwa [List.take_length]at this
set_option maxRecDepth 100000 in
theorem Jd(a:Option Addr)(cap:Nat)(L:af)(w:World)(h:aD w a L)(hL:L.length≤1048576) :
  ah 29 #[.slice a L.length cap] w (kf (bJ L) w):=by
 go_enter func29,ntmps29;go_wp2;go_loopw [3,4] (fun v3 v4 wr=>∃k:Nat,v4=.int .i64 (k:Int)∧k≤L.length∧a8 wr w.heap.size v3 (dp [] ((L.take k).filter bt))∧ai w wr) (fun _ v4 _=>L.length-(intOf v4).toNat)
 case atStart=>exact⟨0,rfl,Nat.zero_le _,oe w _ (Nat.le_refl _),ay (Below.refl _ _) _⟩
 case round =>
  obtain⟨k,rfl,hk,hown,hB⟩:=hrel;obtain⟨g,cp,rfl⟩:=hown.shape;have hlen:=zM L k;have hmem:∀i (h:i<(dp [] ((L.take k).filter bt)).length),(dp [] ((L.take k).filter bt))[i].size≤maxLen:=fun i hi=>by
   have hm:=List.getElem_mem hi;rw[rq,List.mem_filter]at hm;rcases hm with hm|hm
   ·cases hm
   ·obtain⟨j,hj,he⟩:=List.getElem_of_mem (List.mem_of_mem_take hm.1);rw[←he];obtain⟨_,_,_,_,_,h6⟩:=h j hj;exact h6
  by_cases hlt:k<L.length
  ·obtain⟨sb,off,rfl,hs,hc,hmx⟩:=h k hlt;have hc':=(hB.cell (p:=⟨sb,off+k,none⟩) hs).trans hc;have HT:=uR hlt;have hsz:=hB.size;have hlst:=hown.OL (c:=sb) hs hmem;generalize hX:dp [] ((L.take k).filter bt)=X at hown hlen hmem hlst HT ⊢;cases hq:bt L[k]
   ·have HN:Hid (X=dp [] ((L.take (k+1)).filter bt)):=by
     show X=_;rw[HT,hq,←hX];simp
    have HQ:Hid (bt L[k]=false):=hq
    clear hq hX HT
    generalize L[k]=t at hc' hmx HQ
    go_wp2_with fail
    refine(nV t _ hmx).mono ?_
    rintro e w2 ⟨rfl,rfl⟩
    rw[HQ.out]
    go_wp2
    go_roundw
    case rel=>exact⟨k+1,by go_num,by omega,by rw[←HN.out];exact hown,hB⟩
    case measure=>simp[intOf];omega
   ·have HN:Hid (cN X L[k]=dp [] ((L.take (k+1)).filter bt)):=by
     show cN X L[k]=_;rw[HT,hq,←hX];simp only[if_true];rw[K3]
    have HQ:Hid (bt L[k]=true):=hq
    clear hq hX HT hc
    generalize L[k]=t at hc' hmx HQ HN
    go_wp2_with fail
    refine(nV t _ hmx).mono ?_
    rintro e w2 ⟨rfl,rfl⟩
    rw[HQ.out]
    go_wp2_with fail
    refine(Ba sb _ X t _ hlst (by omega) hmx (by omega)).mono ?_
    rintro e w3 ⟨v',rfl,hor,_,hb3⟩
    have hB3:=hB.trans (hb3.mono hsz)
    have HR:Hid (a8 w3 w.heap.size v' (dp [] ((L.take (k+1)).filter bt))):=by
     show a8 w3 w.heap.size v' _;rw[←HN.out];rcases hor with⟨rfl,he⟩|ho
     ·rw[he];exact hown.call hb3
     ·exact⟨mc ho.1 hsz,ho.2⟩
    clear hor hown hlst hmem
    obtain⟨g2,c2,rfl⟩:=HR.out.shape
    go_wp2
    go_roundw
    case rel=>exact⟨k+1,by go_num,by omega,HR.out,hB3⟩
    case measure=>simp[intOf];omega
  ·have e1:k=L.length:=by omega
   subst e1;rw[List.take_length]at hown ⊢;have HR:Hid (a8 wr w.heap.size (.slice (some ⟨g,0,none⟩) (bJ L).length cp) (bJ L)):=hown;have e2:(dp [] (List.filter bt L)).length=(bJ L).length:=rfl;rw[e2];clear hown hmem hlen e2;generalize (bJ L).length=m at HR ⊢;go_wp2;go_ret;exact⟨_,rfl,HR.out,hB⟩
theorem Hu(c:Nat)(v:Value)(X:af)(n:Nat)(w:World)(h:bA c w v X)(hX:X.length≤2000000)(hn:n≤900000000) :
  ah 30 #[v,.int .i64 n] w (aA (.tuple #[.string (vN (cO X n)),.int .i64 (cO X n:Int)]) w):=by
 obtain⟨f0,f1,f2,f3⟩:=qC X n;go_enter func30,ntmps30;go_wp2;go_loopw [1] (fun v1 wr=>∃k:Nat,v1=.int .i64 (k:Int)∧n≤k∧k≤cO X n∧ai w wr) (fun v1 _=>cO X n-(intOf v1).toNat)
 case atStart=>exact⟨n,rfl,Nat.le_refl _,f0,Below.refl _ _⟩
 case round =>
  obtain⟨k,rfl,hk0,hk1,hB⟩:=hrel;have HI:Hid (Lib.itoa (k:Int)=Lib.decDigits k):=Az k;have hl:¬9223372036854775807<1+(Lib.decDigits k).length:=by
   have:=uE k k (Nat.le_refl _);omega
  have HV:Hid ((⟨#[118]⟩++⟨(Lib.decDigits k).toArray⟩:ByteArray)=vN k):=lO 118 _;have hbk:(k:Int)≤999999999:=by omega
  have hbn:(-999999999:Int)≤(k:Int):=by omega
  go_wp2_with fail;refine(A3 (k:Int) _ hbn hbk).mono ?_;rintro e w1 ⟨rfl,hb1⟩;rw[HI.out];have hB1:=aw hB hb1;go_wp2_with fail;refine(nS c v X _ _ (h.call hB1) (by omega)).mono ?_;rintro e w2 ⟨x,rfl,hx,rfl⟩;rw[HV.out]at hx;by_cases hk:k<cO X n
  ·have hx0:0≤x:=hx.mpr (f3 k hk0 hk);clear hx;go_wp2;go_roundw
   case rel=>exact⟨k+1,by go_num,by omega,by omega,hB1⟩
   case measure=>simp[intOf];omega
  ·have e1:k=cO X n:=by omega
   have hx0:¬0≤x:=fun hh=>by
    have:=hx.mp hh;rw[e1,f2]at this;cases this
   have HE:Hid (vN k=vN (cO X n)∧(k:Int)=(cO X n:Int)):=⟨by rw[←e1],by rw[←e1]⟩;clear hx f2 f3 e1;go_wp2_with fail;refine(A3 (k:Int) _ hbn hbk).mono ?_;rintro e w3 ⟨rfl,hb3⟩;rw[HI.out];have hB3:=aw hB1 hb3;clear hb1 hb3 hB hB1;go_wp2;go_ret2;exact⟨by rw[HV.out,HE.out.1,HE.out.2];rfl,hB3⟩
theorem Hv(a:Option Addr)(cap:Nat)(L:af)(N:Nat)(w:World)(h:aD w a L)(hL:L.length≤1048576)(hn:N*(L.length+1)≤900000000) :
  ah 14 #[.slice a L.length cap,.int .i64 N] w (kf (bL (bJ L) N 0) w):=by
 obtain⟨i0,hi,hz0,hz1,hz2⟩:=info_parts Tryz.OJ;have hB0:=ay (Below.refl w.heap.size w) (.cells #[] 9);have hN0:=oe w w.heap.size (Nat.le_refl _);have hxl:=wm L;have hN1:N≤900000000:=Nat.le_trans (Nat.le_mul_of_pos_right N (by omega)) hn;have hT:0+N*((bJ L).length+1)≤900000000:=by
  have:=Nat.mul_le_mul_left N (show(bJ L).length+1≤L.length+1 by omega);omega
 have HS:Hid (∀i (h:i<(bJ L).length),(bJ L)[i].size≤maxLen):=fun i hi=>by
  have hm:=(Jj L _).mp (List.getElem_mem hi);obtain⟨j,hj,he⟩:=List.getElem_of_mem hm.1;rw[←he];obtain⟨_,_,_,_,_,h6⟩:=h j hj;exact h6
 have HNI:Hid (∀W,aD W a L→ah 29 #[.slice a L.length cap] W (kf (bJ L) W)):=fun W hA=>Jd a cap L W hA hL
 generalize bJ L=X at hxl hT HS HNI ⊢;have hNl:=oW X N 0;obtain⟨M,hM⟩:∃M,M=bL X N 0:=⟨_,rfl⟩;have HM:Hid ([]++bL X N 0=M):=by
  show []++bL X N 0=M;rw[hM];rfl
 rw[←hM]at hNl ⊢;have hMl:M.length≤N:=by omega
 clear hM hn hNl;go_enter func14,ntmps14;go_wp2_with fail;refine(HNI.out _ (h.call hB0)).mono ?_;rintro e w1 ⟨v,rfl,hO,hb1⟩;have hB1:=aw hB0 hb1;have hN1':=hN0.call hb1;have hlst:bA w.heap.size w1 v X:=hO.OL (by simp) HS.out;have hw1:w.heap.size<w1.heap.size:=by
  have h1:=hb1.size;simp at h1;omega
 have hvb:∀g n c,v=.slice (some ⟨g,0,none⟩) n c→w.heap.size<g:=fun g n c e=>by
  subst e;have:=hO.lo.1;simp at this;omega
 obtain⟨vg,vc,rfl⟩:=hO.shape;have hvg:=hvb vg _ _ rfl;have hvz:=hO.lo.2;have HL0:Hid (bA (vg+1) w1 (.slice (some ⟨vg,0,none⟩) X.length vc) X):=by
  rcases hlst with⟨e,_⟩|⟨sb,off,cap',e,h1,h2,h3,h4,h5⟩
  ·cases e
  ·have e':=e;injection e' with ea _ _;injection ea with ea;injection ea with ea _ _;exact Or.inr ⟨sb,off,cap',e,h1,h2,h3,by omega,h5⟩
 clear HS hb1 hN0 hB0 HNI hvb hlst;go_wp2;go_loopw [1,5,7] (fun v1 v5 v7 wr=>∃(m p g cp n5:Nat) (Y:af),v1=.int .i64 (m:Int)∧v7=.int .i64 (p:Int)∧v5=.slice (some ⟨g,0,none⟩) n5 cp∧Hid (n5=Y.length)∧m≤N∧p+m*(X.length+1)≤900000000∧Hid (wr.ownsRow w.heap.size 9 1 (.slice (some ⟨g,0,none⟩) n5 cp) n5 (Y.map Value.string))∧Y.length+m≤N∧Hid (Y++bL X m p=M)∧bA (vg+1) wr (.slice (some ⟨vg,0,none⟩) X.length vc) X∧g≠vg∧vg<wr.heap.size∧ai w wr) (fun v1 _ _ _=>(intOf v1).toNat)
 case atStart=>exact⟨N,0,w.heap.size,0,0,[],rfl,rfl,rfl,rfl,Nat.le_refl _,hT,hN1'.1,by simp,HM.out,HL0.out,by omega,hvz,hB1⟩
 case round =>
  obtain⟨m,p,g,cp,n5,Y,rfl,rfl,rfl,HN5,hm,hp,HO,hY,HR,hL,hne,hvz,hB⟩:=hrel;cases m with
  |zero =>
   have e1:Y=M:=by rw[←HR.out];show Y=Y++[];rw[List.append_nil]
   have HE:Hid (a8 wr w.heap.size (.slice (some ⟨g,0,none⟩) n5 cp) M):=by
    refine⟨?_,fun e=>by cases e⟩;rw[←e1];have:=HO.out;rw[HN5.out]at this ⊢;exact this
   clear e1 HO hL;go_wp2;go_ret;exact⟨_,rfl,HE.out,hB⟩
  |succ m =>
   obtain⟨f0,f1,_,_⟩:=qC X p;rw[Nat.succ_mul]at hp;have hsz:=hB.size;have HR2:Hid (Y++[vN (cO X p)]++bL X m (cO X p+1)=M):=by
    show Y++[vN (cO X p)]++bL X m (cO X p+1)=M;rw[←HR.out,List.append_assoc];rfl
   have hp2:cO X p+1+m*(X.length+1)≤900000000:=by omega
   have hfr:cO X p≤900000000:=by omega
   have hm0:(0:Int)<((m+1:Nat):Int):=by omega
   go_wp2_with fail;refine(Hu (vg+1) _ X p _ hL (by omega) (by omega)).mono ?_;rintro e w2 ⟨rfl,hb2⟩;have hB2:=aw hB hb2;have hL2:=hL.call hb2;have HO2:Hid (w2.ownsRow w.heap.size 9 1 (.slice (some ⟨g,0,none⟩) n5 cp) n5 (Y.map Value.string)):=cR HO.out (fun g hg=>hb2.block g (World.ownsRow.lt HO.out g hg).2);generalize cO X p=q at HR2 hp2 hfr ⊢;generalize vN q=t at HR2 ⊢;clear hL HO hB HR f0 f1 hp;have hcc2:∀u∈[Value.string t],u.oneCell'=true:=fun u hu=>by simp at hu;subst hu;rfl
   have hn51:n5+1≤900000001:=by rw[HN5.out];omega
   have hcc3:n5+1≤maxLen:=by unfold maxLen;omega
   have hcc4:(n5+1)*16≤140737488355328:=by omega
   have hsz2:=hB2.size;have hcc5:w.heap.size≤(w2.alloc (.cells #[.string t] 9)).heap.size:=by simp;omega
   have hvz2:vg<w2.heap.size:=Nat.lt_of_lt_of_le hvz hb2.size;go_wp2_with (at_builtin;refine j7 _ rfl _ _ 22 rfl w.heap.size 9 i0 (.string ⟨#[]⟩) 1 16 Tryz.underlying22 hi hz0 hz1 hz2 rfl (by decide) _ _ _ rfl (World.ownsRow.alloc HO2.out _) ⟨w2.heap.size,0,none⟩ 1 1 [.string t] rfl rfl (cell_one_new _ _ _) hcc2 hcc3 hcc4 hcc5 ?_)
   intro v' w5 hown' hgrow hwh;obtain⟨g5,c7,rfl⟩:=ownsRow_succ hown';have hw5:g5≠vg:=by
    rcases hwh g5 rfl with e|e
    ·have e2:g=g5:=by simpa[Value.ownBlock]using e
     omega
    ·omega
   have hL5:bA (vg+1) w5 (.slice (some ⟨vg,0,none⟩) X.length vc) X:=by
    refine(hL2.call (ay (Below.refl _ _) (.cells #[.string t] 9))).grown hgrow ?_;intro sb off n cp' e e2;injection e with e _ _;injection e with e;injection e with e _ _;subst e;simp[Value.ownBlock]at e2;exact hne e2
   have HO5:Hid (w5.ownsRow w.heap.size 9 1 (.slice (some ⟨g5,0,none⟩) (n5+1) c7) (n5+1) ((Y++[t]).map Value.string)):=by
    show w5.ownsRow w.heap.size 9 1 (.slice (some ⟨g5,0,none⟩) (n5+1) c7) (n5+1) ((Y++[t]).map Value.string);rw[List.map_append];exact hown'
   have hB5:ai w w5:=(hB2.alloc hB2.size (.cells #[.string t] 9)).grown hgrow (by simp;omega) (fun k hk=>(World.ownsRow.lt HO2.out k hk).1);have hvz5:vg<w5.heap.size:=by
    have:=hgrow.size;simp at this;omega
   clear hown' hgrow hwh hcc2 hcc3 hcc4 hcc5 hL2 HO2;go_wp2;go_roundw
   case rel=>exact⟨m,q+1,g5,c7,n5+1,Y++[t],by go_num,by go_num,rfl,(by rw[HN5.out,List.length_append];rfl:n5+1=(Y++[t]).length),by omega,hp2,HO5.out,by simp;omega,HR2.out,hL5,hw5,hvz5,hB5⟩
   case measure=>simp[intOf]
end Go.Proofs.YtdojfommmpnbgaaGreatDoor
