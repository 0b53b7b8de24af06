import Derived.Test.YtdojfommmpnbgaaGreatDoorKBH
import Derived.Test.YtdojfommmpnbgaaGreatDoorKBD
namespace Go.Proofs.YtdojfommmpnbgaaGreatDoor
open Go.RowKit
theorem vj{L:af}{x:Int}:∀ps,x∈ca L ps↔∃p∈ps,ae (aa L p) [40]=true∧x=p+2
 |[]=>⟨(fun h=>by cases h),fun ⟨_,h,_⟩=>by cases h⟩
 |p::ps=>by
  have ih:=vj (L:=L) (x:=x) ps;show x∈(if ae (aa L p) [40]then(p+2)::ca L ps else ca L ps)↔_;constructor
  ·intro h;split at h
   ·rename_i h1;rcases List.mem_cons.mp h with rfl|h
    ·exact⟨p,List.mem_cons_self ..,h1,rfl⟩
    ·obtain⟨q,hq,h2⟩:=ih.1 h;exact⟨q,List.mem_cons_of_mem _ hq,h2⟩
   ·obtain⟨q,hq,h2⟩:=ih.1 h;exact⟨q,List.mem_cons_of_mem _ hq,h2⟩
  ·rintro⟨q,hq,h1,h2⟩;rcases List.mem_cons.mp hq with rfl|hq
   ·rw[if_pos h1,h2];exact List.mem_cons_self ..
   ·have:=ih.2 ⟨q,hq,h1,h2⟩;split
    ·exact List.mem_cons_of_mem _ this
    ·exact this
theorem Dq{L:af}{e:Int}:∀ps i,fE L ps i e→ps.Pairwise (fun x y=>ag L x≤y)∧∀x∈ps,i≤x∧ag L x≤e
 |[],_,_=>⟨List.Pairwise.nil,fun x h=>by cases h⟩
 |p::ps,i,h=>by
  obtain⟨h1,h2,h3⟩:=h;obtain⟨g1,g2⟩:=Dq ps _ h3;have he:=h2.ends;have hle:=fE.le h3;refine⟨List.Pairwise.cons (fun y hy=>(g2 y hy).1) g1,fun x hx=>?_⟩;rcases List.mem_cons.mp hx with rfl|hx
  ·exact⟨h1,hle⟩
  ·have:=g2 x hx;omega
theorem xT{L:af}(f:Int→Bool):∀ps:List Int,(ps.any fun p=>ae (aa L p) [40]&&f (p+2))=(ca L ps).any f
 |[]=>rfl
 |p::ps=>by
  rw[List.any_cons,xT f ps];show _=(if ae (aa L p) [40]then(p+2)::ca L ps else ca L ps).any f;cases ae (aa L p) [40]
  ·rfl
  ·rw[if_pos rfl,List.any_cons,Bool.true_and]
theorem Kw(L:af)(p:Int):be L p=aa L (Q.be L p):=by
 unfold be Q.be;split<;>rfl
set_option maxHeartbeats 1000000 in
theorem Mt{L:af}{F:Nat→Bool}{i:Int}{m n:Nat}{E:Q.bj}{lp:Bool}(hv:aH L i)(ho:ae (aa L i) [40]=true)(hc:ae (aa L (i+1)) [102,110]=true)(hm:2*aB L i+1≤m+2)(hn:2*aB L i≤n+2):∃pre Sub,iF L F i (m+2) (n+2) E lp pre Sub:=by
 have h0:=(bF ho).1;have hp:=hv.plain ho;obtain⟨hit1,kx,ex,hchx,hex0,hex1,hex,hitx⟩:=hv.parts ho;obtain⟨hb,kk,e7,m7,e6,c1,c2,c3,c4,c5,c6,c7,c8,c9,c10⟩:=hv.fn ho hc;have cq:=gJ kk _ c1 c2;have cd:=gU m7 _ c6 c7;obtain⟨q1,hdl⟩:=eK m7 _ c6;have hI2:ag L (i+2)=e7+1:=by
  obtain⟨_,_,hz,_⟩:=gk hchx (by omega);obtain⟨k2,e2,g1,g2,g3,g4,g5⟩:=iz hb hz;rw[show i+2+1=i+3 by omega]at g1;obtain⟨_,g6⟩:=jh _ _ _ g1 (qd kk _ c1) (eo (Or.inr (Or.inr g4))) (eo (Or.inr (Or.inr c4)));rw[g5,g6]
 have j1:bd L 2 (i+1) (e7+1):=⟨by omega,by rw[hit1];exact⟨by omega,hI2⟩⟩;have hkI:=iv m7 _ q1;obtain⟨hch,hPc⟩:=qh 2 m7 _ j1 hkI;have hlt:=jz m7 _ q1 c7;have hpar:∀p∈ar L m7 (e7+1),∀q,bH L q p↔(bH L q i∨q=i):=fun p hp q=>eg ho hch c7 c10 (by rw[hPc];exact List.mem_append.mpr (Or.inr hp))
 have hpar2:∀q,bH L q (i+2)↔(bH L q i∨q=i):=fun q=>eg ho hch c7 c10 (by rw[hPc];refine List.mem_append.mpr (Or.inl ?_);show i+2∈[i+1,ag L (i+1)];rw[hit1];simp)
 have hQI:=qd kk _ c1;have hI2':ag L (i+2)=e7+1:=hI2;have hlist:bd L kk (i+2+1) e7:=by rw[show i+2+1=i+3 by omega];exact hQI
 have hpar3:∀p∈ar L kk (i+3),∀q,bH L q p↔(bH L q (i+2)∨q=i+2):=fun p hp q=>eg hb hlist c2 hI2' (by rw[show i+2+1=i+3 by omega];exact hp)
 have hall:=uv kk _ c1 c2;have hdl2:eh L (i+2)=false:=by
  have e3:i+2+1=i+3:=by omega
  cases kk with
  |zero =>
   have:i+3=e7:=c1;exact jT (c:=[41]) (by rw[e3,this];exact c4) (by decide) (by decide) (by decide)
  |succ kk =>
   rcases (jY c1.1).2.2 with⟨p1,_⟩|⟨_,p2,_⟩
   ·exact jT (c:=[40]) (by rw[e3];exact p1) (by decide) (by decide) (by decide)
   ·exact sn (by rw[e3];exact p2)
 have hdf:=zy hc;have hprm:∀p∈ar L kk (i+3),0≤p∧i+3≤p∧ag L p≤e7∧((ae (aa L p) [40]=true∧aV (aa L (p+1))=true∧aH L (p+2)∧ag L p=ag L (p+2)+1∧(∀q,bH L q (p+1)↔(bH L q p∨q=p))∧∀q,bH L q (p+2)↔(bH L q p∨q=p))∨(ae (aa L p) [40]=false∧aV (aa L p)=true∧ag L p=p+1)):=fun p hpm=>by
  obtain⟨a1,a2,a3⟩:=hall p hpm;obtain⟨b1,b2,b3⟩:=jY a1;refine⟨b1,a2,a3,?_⟩;rcases b3 with⟨b4,b5,b6,b7,b8⟩|b4
  ·left;have hi1:ag L (p+1)=p+2:=by rw[gw (by omega) b6 (dD b5)];omega
   have hve:=b7.ends;have hcc:bd L 2 (p+1) (ag L (p+2)):=⟨by omega,by rw[hi1];exact⟨by omega,rfl⟩⟩;have hcp:ar L 2 (p+1)=[p+1,p+2]:=by
    show [p+1,ag L (p+1)]=_;rw[hi1]
   exact⟨b4,b5,b7,b8,fun q=>eg b4 hcc (by omega) b8 (by rw[hcp];simp),fun q=>eg b4 hcc (by omega) b8 (by rw[hcp];simp)⟩
  ·exact Or.inr b4
 have hup:∀p∈ar L kk (i+3),∀q,(bH L q p∨q=p)→i<q→(q=i+2∨q=p):=fun p hpm q hq hqi=>by
  rcases hq with hq|rfl
  ·rcases (hpar3 p hpm q).1 hq with h1|rfl
   ·rcases (hpar2 q).1 h1 with h2|rfl
    ·have:=h2.2.1;omega
    ·omega
   ·exact Or.inl rfl
  ·exact Or.inr rfl
 have hanci:∀p∈ar L kk (i+3),bH L i p:=fun p hpm=>(hpar3 p hpm i).2 (Or.inl ((hpar2 i).2 (Or.inr rfl)))
 have hplcp:=rp c1 c2 c3 c4;have hplcd:aT L (e7+1)=ar L m7 (e7+1):=ef q1 c7 (by omega) (bP c9);have hPP:∀y∈(ar L kk (i+3)).map (Q.be L),0≤y∧Ow L i y:=fun y hy=>by
  obtain⟨p,hpm,rfl⟩:=List.mem_map.mp hy;obtain⟨b1,b2,b3,b4⟩:=hprm p hpm;unfold Q.be;rcases b4 with⟨b4,b5,b6,b7,b8,b9⟩|⟨b4,b5,b6⟩
  ·rw[b4,if_pos rfl];refine⟨by omega,Or.inr ⟨(b8 i).2 (Or.inl (hanci p hpm)),hdf⟩,fun q hq hdq=>?_⟩;by_cases hqi:q≤i
   ·exact hqi
   ·rcases hup p hpm q ((b8 q).1 hq) (by omega)with rfl|rfl
    ·rw[hdl2]at hdq;cases hdq
    ·rw[sn b5]at hdq;cases hdq
  ·rw[b4,if_neg (by decide)];refine⟨b1,Or.inr ⟨hanci p hpm,hdf⟩,fun q hq hdq=>?_⟩;by_cases hqi:q≤i
   ·exact hqi
   ·rcases hup p hpm q (Or.inl hq) (by omega)with rfl|rfl
    ·rw[hdl2]at hdq;cases hdq
    ·have:=hq.2.1;omega
 have hB1:=r7 c6 hpar hdf false;have hB2:=r7 c6 hpar hdf true;have hkp:jm L F i=true:=by
  unfold jm dt;rw[ho,hc];rfl
 obtain⟨g1,g2⟩:=Dq _ _ (xy kk _ c1 c2);obtain⟨ps,hps⟩:∃ps,ps=ar L kk (i+3):=⟨_,rfl⟩;obtain⟨ds,hds⟩:∃ds,ds=ar L m7 (e7+1):=⟨_,rfl⟩;rw[←hps]at hprm hup hanci hplcp hPP g1 g2;rw[←hds]at hlt hpar hplcd hB1 hB2 hdl;obtain⟨PP,hPPe⟩:∃PP,PP=ps.map (Q.be L):=⟨_,rfl⟩;obtain⟨BP,hBPe⟩:∃BP,BP=ds.flatMap (Q.aN L false):=⟨_,rfl⟩;obtain⟨BH,hBHe⟩:∃BH,BH=ds.flatMap (Q.aN L true):=⟨_,rfl⟩;rw[←hPPe]at hPP;rw[←hBPe]at hB1;rw[←hBHe]at hB2;refine⟨[],(ca L ps).map (fun x=>⟨x,[(PP,[])],m+1,n+1,false⟩)++ds.map (fun x=>⟨x,[(PP,[]),(BP,BH)],m,n,false⟩),?_,(fun u hu=>by cases hu),fun t ht=>?_,?_,fun d d1 d2 d3=>?_,fun s fn hs=>?_⟩
 ·have e1:Q.wk L (m+2) 0 false i ⟨E,lp⟩=Q.fD L (Q.wk L (m+1)) i ⟨E,lp⟩:=Q.AH (Q.wk L (m+1)) ⟨E,lp⟩ ho hc;rw[e1];unfold Q.fD;rw[hplcp,c5,Q.wz,←hPPe];have e2:∀v K,(Q.wk L (m+1) 1 v (e7+1) K).us=(Q.aW (fun p=>Q.wk L m 0 false p (Q.oK K ((aT L (e7+1)).flatMap (Q.aN L false)) ((aT L (e7+1)).flatMap (Q.aN L true)))) (aT L (e7+1))).us:=fun _ _=>rfl
  show(Q.aW _ _).us++(Q.wk L (m+1) 1 _ (e7+1) _).us=_;rw[e2,hplcd,←hBPe,←hBHe,mU,mU,List.nil_append,List.flatMap_append,List.flatMap_map,List.flatMap_map];congr 1;refine congrArg (fun f=>ds.flatMap f) (funext fun x=>?_);show _=(Q.wk L m 0 false x ⟨E++[(PP,[]),(BP,BH)],false⟩).us;rw[show E++[(PP,[]),(BP,BH)]=(E++[(PP,[])])++[(BP,BH)] by simp];rfl
 ·rcases List.mem_append.mp ht with ht|ht
  ·obtain⟨x,hx,rfl⟩:=List.mem_map.mp ht;obtain⟨p,hpm,h40,rfl⟩:=(vj ps).1 hx;obtain⟨b1,b2,b3,b4⟩:=hprm p hpm;rcases b4 with⟨b4,b5,b6,b7,b8,b9⟩|⟨b4,_⟩
   ·have hve:=b6.ends;have hfar:=dC (L:=L) (i:=i) (j:=p+2) h0 (by omega) (by omega);refine⟨b6,(b9 i).2 (Or.inl (hanci p hpm)),fun Z hZ=>?_,fun q hq hqi=>?_,?_,?_,?_⟩
    ·rw[List.mem_singleton]at hZ;subst hZ;exact⟨hPP,fun y hy=>by cases hy⟩
    ·rcases hup p hpm q ((b9 q).1 hq) hqi with rfl|rfl
     ·exact hdl2
     ·exact sn b5
    ·show 2*aB L (p+2)+1≤m+1;omega
    ·show 2*aB L (p+2)≤n+1;omega
    ·show aB L (p+2)<aB L i;omega
   ·rw[h40]at b4;cases b4
  ·obtain⟨x,hx,rfl⟩:=List.mem_map.mp ht;obtain⟨a1,a2,a3,a4⟩:=hlt x hx;have hfar:=dC (L:=L) (i:=i) (j:=x) h0 (by omega) (by omega);refine⟨a3,(hpar x hx i).2 (Or.inr rfl),fun Z hZ=>?_,fun q hq hqi=>?_,?_,?_,?_⟩
   ·simp only[List.mem_cons,List.not_mem_nil,or_false]at hZ;rcases hZ with rfl|rfl
    ·exact⟨hPP,fun y hy=>by cases hy⟩
    ·exact⟨hB1,hB2⟩
   ·rcases (hpar x hx q).1 hq with h1|rfl
    ·have:=h1.2.1;omega
    ·omega
   ·show 2*aB L x+1≤m;omega
   ·show 2*aB L x≤n;omega
   ·show aB L x<aB L i;omega
 ·rw[List.pairwise_append];refine⟨by rw[List.pairwise_map];exact g1,by rw[List.pairwise_map,hds];exact nA m7 _ q1 c7,fun t ht t' ht'=>?_⟩;obtain⟨x,hx,rfl⟩:=List.mem_map.mp ht;obtain⟨y,hy,rfl⟩:=List.mem_map.mp ht';have h1:=(g2 x hx).2;have h2:=(hlt y hy).1;show ag L x≤y;omega
 ·by_cases hda:d<e7+1
  ·exact Exists.elim (show ∃p∈ps,ae (aa L p) [40]=true∧p+2≤d∧d<ag L (p+2)from by
    obtain⟨o1,o2⟩:=eM d3;have e1:d≠i+1:=fun h=>by rw[h,hp.1]at o1;cases o1
    have e2:d≠i+2:=fun h=>by
     rw[h]at o2;rw[uG o2]at hdl2;cases hdl2
    have e3:d≠e7:=fun h=>by rw[h,aQ c4 (by decide)]at o1;cases o1
    obtain⟨p,pm,p1,p2,p3⟩:=mz (q:=d) kk _ hQI (by omega) (by omega);rw[←hps]at pm;obtain⟨b1,b2,b3,b4⟩:=hprm p pm;rcases b4 with⟨b4,b5,b6,b7,b8,b9⟩|⟨b4,b5,b6⟩
    ·have f1:d≠p:=fun h=>by
      rw[h]at d3;rw[zz b5]at d3;cases d3
     have f2:d≠p+1:=fun h=>by rw[h,(dD b5).1]at o1;cases o1
     have f3:d≠ag L (p+2):=fun h=>by
      have hve:=b6.ends;obtain⟨k9,e9,z1,z2,z3,z4,z5⟩:=iz b4 (by omega);rw[h,show ag L (p+2)=e9 by omega,aQ z4 (by decide)]at o1;cases o1
     exact⟨p,pm,b4,by omega,by omega⟩
    ·have:d=p:=by omega
     rw[this,b4]at o1;cases o1) fun p ⟨pm,p1,p2,p3⟩=>⟨_,List.mem_append.mpr (Or.inl (List.mem_map.mpr ⟨p+2,(vj ps).2 ⟨p,pm,p1,rfl⟩,rfl⟩)),p2,p3⟩
  ·have hde:d≠e6:=fun h=>by
    rw[h,iT (aQ c9 (by decide))]at d3;cases d3
   obtain⟨c,cm,z1,z2,z3⟩:=mz (q:=d) m7 _ hkI (by omega) (by omega)
   rw[←hds]at cm
   exact⟨_,List.mem_append.mpr (Or.inr (List.mem_map.mpr ⟨c,cm,rfl⟩)),z1,z2⟩
 ·have hu:us L F (n+2) 0 i s fn=(if bc ((aT L (i+3)).map (be L)) s then false else if(aT L (i+3)).any (fun p=>ae (aa L p) [40]&&us L F (n+1) 0 (p+2) s true)then true else if bc (dI L (jR L i)) s then false else us L F (n+1) 1 (jR L i) s true):=NN (us L F (n+1)) s fn ho hc;have hdn:dI L (e7+1)=BP.map (aa L):=by
   unfold dI;rw[hplcd,hBPe,oT _ hdl]
  have hpn:ps.map (be L)=PP.map (aa L):=by
   rw[hPPe,List.map_map];exact List.map_congr_left fun p _=>Kw L p
  rw[hu,hplcp,c5,hpn,hdn,xT (fun x=>us L F (n+1) 0 x s true),mD fun p hp=>(hPP p hp).1,mD fun p hp=>(hB1 p hp).1,hkp,Bool.or_true];have hany:=jy (F:=F) n (e7+1) s true q1 c9;rw[←hds]at hany;constructor
  ·intro h;right;split at h
   ·cases h
   ·rename_i h1;have h1':¬0≤Q.bD L PP s:=fun h3=>h1 (decide_eq_true h3)
    split at h
    ·rename_i h2;obtain⟨x,hx,h3⟩:=List.any_eq_true.mp h2;refine⟨_,List.mem_append.mpr (Or.inl (List.mem_map.mpr ⟨x,hx,rfl⟩)),fun Z hZ=>?_,h3⟩;rw[List.mem_singleton]at hZ;subst hZ;exact h1'
    ·split at h
     ·cases h
     ·rename_i h3;obtain⟨x,hx,h4⟩:=hany.1 h;refine⟨_,List.mem_append.mpr (Or.inr (List.mem_map.mpr ⟨x,hx,rfl⟩)),fun Z hZ=>?_,h4⟩;simp only[List.mem_cons,List.not_mem_nil,or_false]at hZ;rcases hZ with rfl|rfl
      ·exact h1'
      ·exact fun h5=>h3 (decide_eq_true h5)
  ·rintro(h1|⟨t,ht,h1,h2⟩)
   ·exact absurd h1 l6
   ·rcases List.mem_append.mp ht with ht|ht
    ·obtain⟨x,hx,rfl⟩:=List.mem_map.mp ht;rw[if_neg (fun h3=>h1 _ (List.mem_singleton.mpr rfl) (of_decide_eq_true h3)),if_pos (List.any_eq_true.mpr ⟨x,hx,h2⟩)]
    ·obtain⟨x,hx,rfl⟩:=List.mem_map.mp ht;rw[if_neg (fun h3=>h1 (PP,[]) (List.mem_cons_self ..) (of_decide_eq_true h3))];split
     ·rfl
     ·rw[if_neg (fun h3=>h1 (BP,BH) (List.mem_cons_of_mem _ (List.mem_cons_self ..)) (of_decide_eq_true h3))];exact hany.2 ⟨x,hx,h2⟩
theorem xk{L:af}{F:Nat→Bool}{i:Int}{m n:Nat}{E:Q.bj}{lp:Bool}(hv:aH L i)(hm:2*aB L i+1≤m)(hn:2*aB L i≤n):∃pre Sub,iF L F i m n E lp pre Sub:=by
 have hve:=hv.ends;have hfp:=gm (L:=L) hve.1 (by omega);obtain⟨m,rfl⟩:∃k,m=k+2:=⟨m-2,by omega⟩;obtain⟨n,rfl⟩:∃k,n=k+2:=⟨n-2,by omega⟩;cases ho:ae (aa L i) [40]
 ·exact My hv ho
 cases h1:ae (aa L (i+1)) [104,105,100,100,101,110];rotate_left
 ·exact Mw hv ho h1
 cases h2:ae (aa L (i+1)) [118,97,114,115];rotate_left
 ·exact MF hv ho h2
 cases h3:ae (aa L (i+1)) [108,101,116];rotate_left
 ·exact MA hv ho h3 hm hn
 cases h4:ae (aa L (i+1)) [116,97,107,101];rotate_left
 ·exact ME hv ho h4 hm hn
 cases h5:ae (aa L (i+1)) [115,101,116];rotate_left
 ·exact MD hv ho h5 hm hn
 cases h6:ae (aa L (i+1)) [104,103,101,116];rotate_left
 ·exact Mv hv ho h6 hm hn
 cases h7:ae (aa L (i+1)) [104,112,117,116];rotate_left
 ·exact Mx hv ho h7 hm hn
 cases h8:ae (aa L (i+1)) [102,110];rotate_left
 ·exact Mt hv ho h8 hm hn
 cases h9:ae (aa L (i+1)) [100,111];rotate_left
 ·obtain⟨pre,Sub,h,_⟩:=xm (F:=F) (E:=E) (lp:=lp) hv ho h9 hm hn;exact⟨pre,Sub,h⟩
 cases h10:ae (aa L (i+1)) [119,104,105,108,101];rotate_left
 ·exact MG hv ho h10 hm hn
 cases h11:ae (aa L (i+1)) [102,111,114];rotate_left
 ·exact Mu hv ho h11 hm hn
 cases h12:ae (aa L (i+1)) [108,101,97,118,101];rotate_left
 ·exact Mz hv ho h12 hm hn
 cases h13:ae (aa L (i+1)) [110,101,120,116];rotate_left
 ·exact MB hv ho h13 hm hn
 exact MC hv ho h1 h2 h3 h4 h5 h6 h7 h8 h9 h10 h11 h12 h13 hm hn
section
variable {L:af} {F:Nat→Bool}
theorem oX{X:List Int}{s:ByteArray}(h:0≤Q.bD L X s):Q.bD L X s∈X∧aa L (Q.bD L X s)=s:=by
 unfold Q.bD at h ⊢;cases hf:X.find? fun p=>Q.cA (aa L p) s with
 |none =>
  rw[hf]at h;exact absurd h (by decide)
 |some p=>exact⟨List.mem_of_find?_eq_some hf,Q.qx.1 (List.find?_some (p:=fun p=>Q.cA (aa L p) s) hf)⟩
theorem tD(q:Bool)(s:ByteArray):∀(B:Q.bj) (k:Int),((∀Z∈B,¬0≤Q.bD L (Q.bC q Z.1 Z.2) s)∧B.foldl (fun m Z=>if 0≤Q.bD L (Q.bC q Z.1 Z.2) s then Q.bD L (Q.bC q Z.1 Z.2) s else m) k=k)∨∃Z∈B,0≤Q.bD L (Q.bC q Z.1 Z.2) s∧B.foldl (fun m Z=>if 0≤Q.bD L (Q.bC q Z.1 Z.2) s then Q.bD L (Q.bC q Z.1 Z.2) s else m) k=Q.bD L (Q.bC q Z.1 Z.2) s
 |[],k=>Or.inl ⟨(fun Z h=>by cases h),rfl⟩
 |Z::B,k=>by
  rw[List.foldl_cons];by_cases hz:0≤Q.bD L (Q.bC q Z.1 Z.2) s
  ·rw[if_pos hz];rcases tD q s B (Q.bD L (Q.bC q Z.1 Z.2) s)with⟨_,h2⟩|⟨Y,h1,h2,h3⟩
   ·exact Or.inr ⟨Z,List.mem_cons_self ..,hz,h2⟩
   ·exact Or.inr ⟨Y,List.mem_cons_of_mem _ h1,h2,h3⟩
  ·rw[if_neg hz];rcases tD q s B k with⟨h1,h2⟩|⟨Y,h1,h2,h3⟩
   ·refine Or.inl ⟨fun Y hY=>?_,h2⟩;rcases List.mem_cons.mp hY with rfl|hY
    ·exact hz
    ·exact h1 Y hY
   ·exact Or.inr ⟨Y,List.mem_cons_of_mem _ h1,h2,h3⟩
theorem ru(q:Bool)(s:ByteArray)(E B:Q.bj):((∀Z∈B,¬0≤Q.bD L (Q.bC q Z.1 Z.2) s)∧Q.bX L q (E++B) s=Q.bX L q E s)∨∃Z∈B,0≤Q.bD L (Q.bC q Z.1 Z.2) s∧Q.bX L q (E++B) s=Q.bD L (Q.bC q Z.1 Z.2) s:=by
 unfold Q.bX;rw[List.foldl_append];exact tD q s B _
theorem tC{q:Bool}{s:ByteArray}{E:Q.bj}(h:0≤Q.bX L q E s):∃Z∈E,Q.bX L q E s∈Q.bC q Z.1 Z.2∧aa L (Q.bX L q E s)=s:=by
 unfold Q.bX at h ⊢;rcases tD (L:=L) q s E (-1)with⟨_,h2⟩|⟨Z,h1,h2,h3⟩
 ·rw[h2]at h;omega
 ·rw[h3];exact⟨Z,h1,oX h2⟩
def kX(L:af)(E:Q.bj)(i:Int):Prop:=∀Z∈E,(∀y∈Z.1,0≤y∧∃o,Ow L o y∧(o=-1∨bH L o i))∧∀y∈Z.2,0≤y∧∃o,Ow L o y∧(o=-1∨bH L o i)
theorem Fb{E:Q.bj}{i:Int}(h:kX L E i){Z:List Int × List Int}(hZ:Z∈E){q:Bool}{y:Int}(hy:y∈Q.bC q Z.1 Z.2):0≤y∧∃o,Ow L o y∧(o=-1∨bH L o i):=by
 cases q
 ·exact(h Z hZ).1 y hy
 ·exact(h Z hZ).2 y hy
theorem qw{E:Q.bj}{i:Int}(h:kX L E i){q:Bool}{s:ByteArray}(h0:0≤Q.bX L q E s):∃o,Ow L o (Q.bX L q E s)∧(o=-1∨bH L o i):=by
 obtain⟨Z,hZ,h1,_⟩:=tC h0;exact(Fb h hZ h1).2
theorem CX{i:Int}{t:Sb}(h:oI L i t){Z:List Int × List Int}(hZ:Z∈t.B){q:Bool}{y:Int}(hy:y∈Q.bC q Z.1 Z.2):0≤y∧Ow L i y:=by
 cases q
 ·exact(h.2.2.1 Z hZ).1 y hy
 ·exact(h.2.2.1 Z hZ).2 y hy
theorem kK{E:Q.bj}{i:Int}{t:Sb}(h:kX L E i)(ht:oI L i t):kX L (E++t.B) t.x:=fun Z hZ=>by
 rcases List.mem_append.mp hZ with hZ|hZ
 ·obtain⟨h1,h2⟩:=h Z hZ;have key:∀o,(o=-1∨bH L o i)→(o=-1∨bH L o t.x):=fun o ho=>ho.imp id fun ho=>xS ho ht.2.1
  exact⟨fun y hy=>⟨(h1 y hy).1,by obtain⟨o,a,b⟩:=(h1 y hy).2;exact⟨o,a,key o b⟩⟩,fun y hy=>⟨(h2 y hy).1,by obtain⟨o,a,b⟩:=(h2 y hy).2;exact⟨o,a,key o b⟩⟩⟩
 ·obtain⟨h1,h2⟩:=ht.2.2.1 Z hZ;exact⟨fun y hy=>⟨(h1 y hy).1,i,(h1 y hy).2,Or.inr ht.2.1⟩,fun y hy=>⟨(h2 y hy).1,i,(h2 y hy).2,Or.inr ht.2.1⟩⟩
theorem wW{i:Int}{t:Sb}(h:oI L i t):i<t.x∧ag L t.x<ag L i∧t.x<ag L t.x:=by
 have h1:=xQ h.2.1 h.1.not41;exact⟨h.2.1.2.1,h1.1,h1.2⟩
theorem pP:∀(N:Nat) (i:Int) (m:Nat) (E:Q.bj) (lp:Bool),aB L i≤N→aH L i→2*aB L i+1≤m→kX L E i→∀u∈(Q.wk L m 0 false i ⟨E,lp⟩).us,(i≤u.1∧u.1<ag L i)∧(u.2.1=Q.bX L u.2.2 E (aa L u.1)∨∃o,Ow L o u.2.1∧i≤o∧o<ag L i)
 |0,i,m,E,lp,hN,hv,_,_,u,_=>by
  have hve:=hv.ends;have:=gm (L:=L) hve.1 (by omega);omega
 |N+1,i,m,E,lp,hN,hv,hm,hE,u,hu=>by
  have hve:=hv.ends;obtain⟨pre,Sub,hS⟩:=xk (L:=L) (F:=fun _=>false) (i:=i) (m:=m) (n:=2*aB L i) (E:=E) (lp:=lp) hv hm (Nat.le_refl _);rw[hS.wkE]at hu;rcases List.mem_append.mp hu with hu|hu
  ·obtain⟨h1,h2,h3,_⟩:=hS.preE u hu;exact⟨⟨h1,h2⟩,Or.inl h3⟩
  ·obtain⟨t,ht,hut⟩:=List.mem_flatMap.mp hu;have hok:=hS.okE t ht;have hr:=wW hok;obtain⟨g1,g2⟩:=pP N t.x t.m (E++t.B) t.lp (by have:=hok.2.2.2.2.2.2;omega) hok.1 hok.2.2.2.2.1 (kK hE hok) u hut;refine⟨by omega,?_⟩;rcases g2 with g2|⟨o,o1,o2,o3⟩
   ·rcases ru (L:=L) u.2.2 (aa L u.1) E t.B with⟨_,h2⟩|⟨Z,h1,h2,h3⟩
    ·rw[h2]at g2;exact Or.inl g2
    ·rw[h3]at g2;have:=(CX hok h1 (oX h2).1).2;rw[←g2]at this;exact Or.inr ⟨i,this,Int.le_refl _,by omega⟩
   ·exact Or.inr ⟨o,o1,by omega,by omega⟩
theorem tR:∀(N:Nat) (i:Int) (m n:Nat) (E:Q.bj) (lp:Bool) (s:ByteArray) (fn:Bool),aB L i≤N→aH L i→2*aB L i+1≤m→2*aB L i≤n→kX L E i→aV s=true→0≤Q.bX L false E s →
  (us L F n 0 i s fn=true↔∃u∈(Q.wk L m 0 false i ⟨E,lp⟩).us,u.2.2=false∧u.2.1=Q.bX L false E s∧(fn=true∨∃q,i≤q∧bH L q u.1∧jm L F q=true))
 |0,i,m,n,E,lp,s,fn,hN,hv,_,_,_,_,_=>by
  have hve:=hv.ends;have:=gm (L:=L) hve.1 (by omega);omega
 |N+1,i,m,n,E,lp,s,fn,hN,hv,hm,hn,hE,hs,h0=>by
  have hve:=hv.ends;obtain⟨pre,Sub,hS⟩:=xk (L:=L) (F:=F) (i:=i) (m:=m) (n:=n) (E:=E) (lp:=lp) hv hm hn;obtain⟨d,hd1,hd2⟩:=qw hE h0;have hsn:=(tC h0).elim fun Z h=>h.2.2
  rw[hS.usE s fn hs,hS.wkE];constructor
  ·rintro(⟨u,hu,h1,h2,h3⟩|⟨t,ht,h1,h2⟩)
   ·obtain⟨_,_,g3,_⟩:=hS.preE u hu;refine⟨u,List.mem_append.mpr (Or.inl hu),h1,?_,Or.inl h3⟩;rw[g3,h1,h2]
   ·have hok:=hS.okE t ht;have hr:=wW hok;have hres:Q.bX L false (E++t.B) s=Q.bX L false E s:=by
     rcases ru (L:=L) false s E t.B with⟨_,g⟩|⟨Z,g1,g2,_⟩
     ·exact g
     ·exact absurd g2 (h1 Z g1)
    obtain⟨u,hu,g1,g2,g3⟩:=(tR N t.x t.m t.n (E++t.B) t.lp s _ (by have:=hok.2.2.2.2.2.2;omega) hok.1 hok.2.2.2.2.1 hok.2.2.2.2.2.1 (kK hE hok) hs (by rw[hres];exact h0)).1 h2;have hur:=(pP N t.x t.m (E++t.B) t.lp (by have:=hok.2.2.2.2.2.2;omega) hok.1 hok.2.2.2.2.1 (kK hE hok) u hu).1;refine⟨u,List.mem_append.mpr (Or.inr (List.mem_flatMap.mpr ⟨t,ht,hu⟩)),g1,by rw[g2,hres],?_⟩;rcases g3 with g3|⟨q,q1,q2,q3⟩
    ·rw[Bool.or_eq_true]at g3;rcases g3 with g3|g3
     ·exact Or.inl g3
     ·exact Or.inr ⟨i,Int.le_refl _,⟨hok.2.1.1,by omega,by omega⟩,g3⟩
    ·exact Or.inr ⟨q,by omega,q2,q3⟩
  ·rintro⟨u,hu,h1,h2,h3⟩;rcases List.mem_append.mp hu with hu|hu
   ·obtain⟨_,_,g3,g4⟩:=hS.preE u hu;left;refine⟨u,hu,h1,?_,?_⟩
    ·have e1:Q.bX L false E (aa L u.1)=Q.bX L false E s:=by rw[←h2,g3,h1]
     have:=(tC (L:=L) (q:=false) (s:=aa L u.1) (E:=E) (by rw[e1];exact h0)).elim fun Z h=>h.2.2
     rw[e1,hsn]at this;exact this.symm
    ·rcases h3 with h3|⟨q,q1,q2,q3⟩
     ·exact h3
     ·rw[sQ (g4 q q2 q1)]at q3;cases q3
   ·right;obtain⟨t,ht,hut⟩:=List.mem_flatMap.mp hu;have hok:=hS.okE t ht;have hr:=wW hok;obtain⟨g1,g2⟩:=pP N t.x t.m (E++t.B) t.lp (by have:=hok.2.2.2.2.2.2;omega) hok.1 hok.2.2.2.2.1 (kK hE hok) u hut;have hdi:d<i:=by
     rcases hd2 with h|h
     ·omega
     ·exact h.2.1
    have key:(∀Z∈t.B,¬0≤Q.bD L Z.1 s)∧Q.bX L false (E++t.B) s=Q.bX L false E s:=by
     rcases g2 with g2|⟨o,o1,o2,o3⟩
     ·rw[h1]at g2;rcases ru (L:=L) false (aa L u.1) E t.B with⟨g3,g4⟩|⟨Z,g3,g4,g5⟩
      ·have e1:Q.bX L false E (aa L u.1)=Q.bX L false E s:=by rw[←g4,←g2,h2]
       have:=(tC (L:=L) (q:=false) (s:=aa L u.1) (E:=E) (by rw[e1];exact h0)).elim fun Z h=>h.2.2
       rw[e1,hsn]at this;rw[←this]at g3 g4;exact⟨g3,g4⟩
      ·exfalso;rw[g5]at g2;have:=(CX (q:=false) hok g3 (oX g4).1).2;rw[←g2,h2]at this;have:=ma this hd1;omega
     ·exfalso;rw[h2]at o1;have:=ma o1 hd1;omega
    refine⟨t,ht,key.1,?_⟩;refine(tR N t.x t.m t.n (E++t.B) t.lp s _ (by have:=hok.2.2.2.2.2.2;omega) hok.1 hok.2.2.2.2.1 hok.2.2.2.2.2.1 (kK hE hok) hs (by rw[key.2];exact h0)).2 ⟨u,hut,h1,by rw[key.2];exact h2,?_⟩;rcases h3 with h3|⟨q,q1,q2,q3⟩
    ·left;rw[h3];rfl
    ·by_cases hqi:q=i
     ·left;rw[←hqi,q3,Bool.or_true]
     ·by_cases hqt:q<t.x
      ·exfalso;have:=hok.2.2.2.1 q ⟨q2.1,hqt,by have:=q2.2.2;omega⟩ (by omega);rw[sQ this]at q3;cases q3
      ·exact Or.inr ⟨q,by omega,q2,q3⟩
theorem tl{α:Type}{R:α→α→Prop}:∀{l:List α},l.Pairwise R→∀a∈l,∀b∈l,a=b∨R a b∨R b a
 |[],_,a,ha,_,_=>by cases ha
 |x::l,h,a,ha,b,hb=>by
  rw[List.pairwise_cons]at h;rcases List.mem_cons.mp ha with ha2|ha2
  ·rcases List.mem_cons.mp hb with hb2|hb2
   ·exact Or.inl (ha2.trans hb2.symm)
   ·rw[ha2];exact Or.inr (Or.inl (h.1 b hb2))
  ·rcases List.mem_cons.mp hb with hb2|hb2
   ·rw[hb2];exact Or.inr (Or.inr (h.1 a ha2))
   ·exact tl h.2 a ha2 b hb2
noncomputable def cQ(L:af)(d:Int):List Int:=(aT L (d+2)).flatMap (Q.aN L false)
theorem wD{d:Int}(hv:aH L d)(hd:bU L d=true):∀y∈cQ L d,0≤y∧Ow L d y:=fun y hy=>by
 obtain⟨o1,o2⟩:=eM hd;have hfp:=gm (L:=L) hv.ends.1 (by have:=hv.ends;omega);obtain⟨pre,Sub,hS,_,hSub⟩:=xm (L:=L) (F:=fun _=>false) (i:=d) (m:=2*aB L d+1) (n:=2*aB L d) (E:=[]) (lp:=false) hv o1 o2 (by omega) (by omega);obtain⟨p,hp,_⟩:=List.mem_flatMap.mp hy;have hok:=hS.okE ⟨p,_,_,_,_⟩ (by rw[hSub];exact List.mem_map.mpr ⟨p,hp,rfl⟩);exact(hok.2.2.1 _ (List.mem_singleton.mpr rfl)).1 y hy
theorem Be{d:Int}(hd:bU L d=true)(hvd:aH L d):∀(N:Nat) (i:Int) (m:Nat) (E:Q.bj) (lp:Bool),aB L i≤N→aH L i→2*aB L i+1≤m→kX L E i→i≤d→d<ag L i →
  ∃m' E' lp',kX L E' d∧2*aB L d+1≤m'∧∀u:Int × Int × Bool,u.2.1∈cQ L d→(u∈(Q.wk L m 0 false i ⟨E,lp⟩).us↔u∈(Q.wk L m' 0 false d ⟨E',lp'⟩).us)
 |0,i,m,E,lp,hN,hv,_,_,_,_=>by
  have hve:=hv.ends;have:=gm (L:=L) hve.1 (by omega);omega
 |N+1,i,m,E,lp,hN,hv,hm,hE,h1,h2=>by
  by_cases hid:i=d
  ·subst hid;exact⟨m,E,lp,hE,hm,fun u _=>Iff.rfl⟩
  have hve:=hv.ends;have hde:=hvd.ends;obtain⟨pre,Sub,hS⟩:=xk (L:=L) (F:=fun _=>false) (i:=i) (m:=m) (n:=2*aB L i) (E:=E) (lp:=lp) hv hm (Nat.le_refl _);obtain⟨t,ht,t1,t2⟩:=hS.coverE d (by omega) h2 hd;have hok:=hS.okE t ht;obtain⟨m',E',lp',k1,k2,k3⟩:=Be hd hvd N t.x t.m (E++t.B) t.lp (by have:=hok.2.2.2.2.2.2;omega) hok.1 hok.2.2.2.2.1 (kK hE hok) t1 t2;refine⟨m',E',lp',k1,k2,fun u hu=>?_⟩;have hud:=wD hvd hd u.2.1 hu;rw[←k3 u hu,hS.wkE];have hdt:ag L d≤ag L t.x:=by
   by_cases hdx:d=t.x
   ·rw[hdx];exact Int.le_refl _
   ·have hto:ae (aa L t.x) [40]=true:=by
     cases hz:ae (aa L t.x) [40]
     ·have:=mG (by have:=hok.1.ends;omega) hz;omega
     ·rfl
    have:=nW _ t.x d (Nat.le_refl _) hto (by have:=hok.1.ends;omega) (by omega) t2 hvd.not41
    omega
  constructor
  ·intro h;rcases List.mem_append.mp h with h|h
   ·exfalso;obtain⟨_,_,g3,_⟩:=hS.preE u h;have h0:0≤Q.bX L u.2.2 E (aa L u.1):=by rw[←g3];exact hud.1
    obtain⟨o,o1,o2⟩:=qw hE h0;rw[←g3]at o1;have:=ma o1 hud.2;rcases o2 with o2|o2
    ·omega
    ·have:=o2.2.1;omega
   ·obtain⟨t',ht',hut⟩:=List.mem_flatMap.mp h;rcases tl hS.apartE t ht t' ht' with h3|h3
    ·rw[h3];exact hut
    ·exfalso;have hok':=hS.okE t' ht';have hve':=hok'.1.ends;obtain⟨g1,g2⟩:=pP N t'.x t'.m (E++t'.B) t'.lp (by have:=hok'.2.2.2.2.2.2;omega) hok'.1 hok'.2.2.2.2.1 (kK hE hok') u hut;rcases g2 with g2|⟨o,o1,o2,o3⟩
     ·have h0:0≤Q.bX L u.2.2 (E++t'.B) (aa L u.1):=by rw[←g2];exact hud.1
      obtain⟨o,o1,o2⟩:=qw (kK hE hok') h0;rw[←g2]at o1;have:=ma o1 hud.2;rcases o2 with o2|o2
      ·omega
      ·have:=o2.2.1;have:=o2.2.2;rw[show o=d by omega]at this;omega
     ·have:=ma o1 hud.2;omega
  ·exact fun h=>List.mem_append.mpr (Or.inr (List.mem_flatMap.mpr ⟨t,ht,h⟩))
end
section
variable {L:af} {F:Nat→Bool}
noncomputable def ij(L:af):List (Int × Int × Bool):=(Q.eO L).us
theorem sq(hp:aR L=true){d:Int}(hd:bU L d=true):aH L d:=by
 obtain⟨o1,o2⟩:=eM hd;obtain⟨h0,h1⟩:=bF o1;exact Or.inr (mg hp (mA o2 (by decide)))
theorem Ir(hp:aR L=true){d:Int}(hd:bU L d=true):∃m' E' lp',kX L E' d∧2*aB L d+1≤m'∧∀u:Int × Int × Bool,u.2.1∈cQ L d→(u∈ij L↔u∈(Q.wk L m' 0 false d ⟨E',lp'⟩).us):=by
 have hvd:=sq hp hd;have hde:=hvd.ends;obtain⟨o1,o2⟩:=eM hd;obtain⟨k,hkd⟩:=mX hp;obtain⟨q1,hdl⟩:=eK k _ hkd;have hkI:=iv k _ q1;have hplc:=ef q1 (by omega) (Int.le_refl _) (Or.inl rfl);have hlt:=jz k _ q1 (by omega);have hno:∀p∈ar L k 0,∀q,¬bH L q p:=fun p hpm q=>ui hkI (by omega) hpm
 obtain⟨P,hP⟩:∃P,P=(aT L 0).flatMap (Q.aN L false):=⟨_,rfl⟩;obtain⟨H,hH⟩:∃H,H=(aT L 0).flatMap (Q.aN L true):=⟨_,rfl⟩;have hU:ij L=(ar L k 0).flatMap fun p=>(Q.wk L (8*L.length+39) 0 false p ⟨[(P,H)],false⟩).us:=by
  unfold ij Q.eO;have e2:(Q.wk L (8*L.length+40) 1 true 0 ⟨[],false⟩).us=(Q.aW (fun p=>Q.wk L (8*L.length+39) 0 false p (Q.oK ⟨[],false⟩ ((aT L 0).flatMap (Q.aN L false)) ((aT L 0).flatMap (Q.aN L true)))) (aT L 0)).us:=rfl;rw[e2,mU,←hP,←hH,hplc];rfl
 have hmemb:∀(b:Bool) (y:Int),y∈(aT L 0).flatMap (Q.aN L b)→0≤y∧Ow L (-1) y:=fun b y hy=>by
  rw[hplc]at hy;obtain⟨p,hpm,hyp⟩:=List.mem_flatMap.mp hy;have h1:=(mW hyp).1;have h2:=(mh (hdl p hpm)).2 y h1;have h3:=fR (hdl p hpm);exact⟨by omega,Kf (hdl p hpm) (hno p hpm) h1⟩
 have hE:∀p,kX L [(P,H)] p:=fun p Z hZ=>by
  rw[List.mem_singleton]at hZ;subst hZ;refine⟨fun y hy=>?_,fun y hy=>?_⟩
  ·rw[hP]at hy;exact⟨(hmemb false y hy).1,-1,(hmemb false y hy).2,Or.inl rfl⟩
  ·rw[hH]at hy;exact⟨(hmemb true y hy).1,-1,(hmemb true y hy).2,Or.inl rfl⟩
 obtain⟨p,pm,p1,p2,p3⟩:=mz (q:=d) k 0 hkI hde.1 (by omega);have hfar:∀p,2*aB L p+1≤8*L.length+39:=fun p=>by have:=mC L p;omega
 obtain⟨m',E',lp',k1,k2,k3⟩:=Be hd hvd _ p (8*L.length+39) [(P,H)] false (Nat.le_refl _) (hlt p pm).2.2.1 (hfar p) (hE p) p1 p2;refine⟨m',E',lp',k1,k2,fun u hu=>?_⟩;have hud:=wD hvd hd u.2.1 hu;rw[←k3 u hu,hU];constructor
 ·intro h;obtain⟨p',pm',hup⟩:=List.mem_flatMap.mp h;rcases tl (nA k _ q1 (by omega)) p pm p' pm' with h3|h3
  ·rw[h3];exact hup
  ·exfalso;have hve':=(hlt p' pm').2.2.1.ends;obtain⟨g1,g2⟩:=pP _ p' (8*L.length+39) [(P,H)] false (Nat.le_refl _) (hlt p' pm').2.2.1 (hfar p') (hE p') u hup;rcases g2 with g2|⟨o,o1,o2,o3⟩
   ·have h0:0≤Q.bX L u.2.2 [(P,H)] (aa L u.1):=by rw[←g2];exact hud.1
    obtain⟨o,o1,o2⟩:=qw (hE p') h0;rw[←g2]at o1;have:=ma o1 hud.2;rcases o2 with o2|o2
    ·omega
    ·exact hno p' pm' _ o2
   ·have:=ma o1 hud.2;have hdt:ag L d≤ag L p:=by
     by_cases hdx:d=p
     ·rw[hdx];exact Int.le_refl _
     ·have hto:ae (aa L p) [40]=true:=lR (hdl p pm);have:=nW _ p d (Nat.le_refl _) hto p3 (by omega) p2 hvd.not41;omega
    omega
 ·exact fun h=>List.mem_flatMap.mpr ⟨p,pm,h⟩
theorem G3(hp:aR L=true){d:Int}(hd:bU L d=true):kP L F d=true↔∃u∈ij L,u.2.1∈cQ L d∧∃q,d<q∧bH L q u.1∧jm L F q=true:=by
 have hvd:=sq hp hd;have hde:=hvd.ends;obtain⟨o1,o2⟩:=eM hd;obtain⟨m',E',lp',k1,k2,k3⟩:=Ir hp hd;have hfp:=gm (L:=L) hde.1 (by omega);obtain⟨m,rfl⟩:∃k,m'=k+2:=⟨m'-2,by omega⟩;obtain⟨pre,Sub,hS,hpre,hSub⟩:=xm (L:=L) (F:=F) (i:=d) (m:=m) (n:=2*L.length+8) (E:=E') (lp:=lp') hvd o1 o2 k2 (by have:=mC L d;omega);obtain⟨k,e,q1d,q2,q3⟩:=hvd.OK o1 o2;have hse:=dH q2;obtain⟨q1,hdl⟩:=eK k _ q1d;have hplc:=ef q1 hse.1 (by omega) (bP q2);have hlt:=jz k _ q1 hse.1;obtain⟨H,hH⟩:∃H,H=(aT L (d+2)).flatMap (Q.aN L true):=⟨_,rfl⟩;have hSub2:Sub=(aT L (d+2)).map fun x=>⟨x,[(cQ L d,H)],m,2*L.length+8,lp'⟩:=by rw[hSub,hH];rfl
 have hok:∀p∈aT L (d+2),oI L d ⟨p,[(cQ L d,H)],m,2*L.length+8,lp'⟩:=fun p hpm=>hS.okE _ (by rw[hSub2];exact List.mem_map.mpr ⟨p,hpm,rfl⟩)
 have hW:∀u,u∈(Q.wk L (m+2) 0 false d ⟨E',lp'⟩).us↔∃p∈aT L (d+2),u∈(Q.wk L m 0 false p ⟨E'++[(cQ L d,H)],lp'⟩).us:=fun u=>by
  rw[hS.wkE,hpre,List.nil_append,hSub2];constructor
  ·intro h;obtain⟨t,ht,h1⟩:=List.mem_flatMap.mp h;obtain⟨p,hpm,rfl⟩:=List.mem_map.mp ht;exact⟨p,hpm,h1⟩
  ·rintro⟨p,hpm,h1⟩;exact List.mem_flatMap.mpr ⟨_,List.mem_map.mpr ⟨p,hpm,rfl⟩,h1⟩
 have hown:=wD hvd hd;have hdn:dI L (d+2)=(cQ L d).map (aa L):=by
  unfold dI cQ;rw[hplc,oT _ hdl]
 have hany:∀s,us L F (2*L.length+10) 1 (d+2) s false=true↔∃p∈aT L (d+2),us L F (2*L.length+9) 0 p s false=true:=fun s=>by
  rw[hplc];exact jy (2*L.length+9) (d+2) s false q1 q2
 unfold kP;rw[List.any_eq_true,hdn];constructor
 ·rintro⟨s,hs,h1⟩;obtain⟨y,hy,rfl⟩:=List.mem_map.mp hs;obtain⟨p,hpm,h2⟩:=(hany _).1 h1;have hyn:aV (aa L y)=true:=by
   obtain⟨p0,hp0,hyp⟩:=List.mem_flatMap.mp hy;rw[hplc]at hp0;exact(sf (hdl p0 hp0) (mW hyp).1).2.2.1
  have hfy:0≤Q.bD L (cQ L d) (aa L y):=by
   have h3:=mD (L:=L) (P:=cQ L d) (s:=aa L y) (fun p hp=>(hown p hp).1);refine of_decide_eq_true (h3.symm.trans ?_);unfold bc;rw[List.any_eq_true];exact⟨_,List.mem_map.mpr ⟨y,hy,rfl⟩,sB.2 rfl⟩
  have hres:Q.bX L false (E'++[(cQ L d,H)]) (aa L y)=Q.bD L (cQ L d) (aa L y):=by
   rw[Q.CL];exact if_pos hfy
  have hk:=hok p hpm;obtain⟨u,hu,g1,g2,g3⟩:=(tR (F:=F) _ p m (2*L.length+9) (E'++[(cQ L d,H)]) lp' (aa L y) false (Nat.le_refl _) hk.1 hk.2.2.2.2.1 (by have:=mC L p;omega) (kK k1 hk) hyn (by rw[hres];exact hfy)).1 h2;have huo:u.2.1∈cQ L d:=by
   rw[g2,hres];exact(oX hfy).1
  refine⟨u,(k3 u huo).2 ((hW u).2 ⟨p,hpm,hu⟩),huo,?_⟩;rcases g3 with g3|⟨q,q1,q2,q3⟩
  ·cases g3
  ·exact⟨q,by have:=hk.2.1.2.1;simp only at this;omega,q2,q3⟩
 ·rintro⟨u,hu,huo,q,hq1,hq2,hq3⟩;obtain⟨p,hpm,hup⟩:=(hW u).1 ((k3 u huo).1 hu);have hk:=hok p hpm;have hdp:d<p:=hk.2.1.2.1;obtain⟨g1,g2⟩:=pP _ p m (E'++[(cQ L d,H)]) lp' (Nat.le_refl _) hk.1 hk.2.2.2.2.1 (kK k1 hk) u hup;have hud:=hown u.2.1 huo;have hnotE:∀(b:Bool) (a:ByteArray),u.2.1=Q.bX L b E' a→False:=fun b a hh=>by
   obtain⟨o,o1,o2⟩:=qw k1 (q:=b) (s:=a) (by rw[←hh];exact hud.1);rw[←hh]at o1;have:=ma o1 hud.2;rcases o2 with o2|o2
   ·omega
   ·have:=o2.2.1;omega
  have g2':u.2.1=Q.bX L u.2.2 (E'++[(cQ L d,H)]) (aa L u.1):=by
   rcases g2 with g2|⟨o,h1,h2,h3⟩
   ·exact g2
   ·have:=ma h1 hud.2;omega
  have hsec:u.2.2=false:=by
   cases hb:u.2.2
   ·rfl
   ·exfalso;rw[hb]at g2';rcases ru (L:=L) true (aa L u.1) E' [(cQ L d,H)]with⟨_,h2⟩|⟨Z,h1,h2,h3⟩
    ·rw[h2]at g2';exact hnotE _ _ g2'
    ·rw[List.mem_singleton]at h1;subst h1;have h4:u.2.1∈H:=by
      rw[g2',h3];exact(oX h2).1
     rw[hH]at h4;obtain⟨p1,hp1,hy1⟩:=List.mem_flatMap.mp h4;obtain⟨p0,hp0,hy0⟩:=List.mem_flatMap.mp huo;rw[hplc]at hp1 hp0;have r1:=(mh (hdl p1 hp1)).2 _ (mW hy1).1;have r0:=(mh (hdl p0 hp0)).2 _ (mW hy0).1;rw[←iS (hdl p1 hp1)]at r1;rw[←iS (hdl p0 hp0)]at r0;have hb1:=(mW hy1).2;have hb0:=(mW hy0).2;rcases tl (nA k _ q1 hse.1) p0 hp0 p1 hp1 with h5|h5|h5
     ·rw[h5,hb1]at hb0;cases hb0
     ·omega
     ·omega
  rw[hsec]at g2';rcases ru (L:=L) false (aa L u.1) E' [(cQ L d,H)]with⟨_,h2⟩|⟨Z,h1,h2,h3⟩
  ·rw[h2]at g2';exact absurd (hnotE _ _ g2') id
  ·rw[List.mem_singleton]at h1;subst h1;have hf:0≤Q.bD L (cQ L d) (aa L u.1):=h2;have hfi:=oX hf;refine⟨aa L u.1,List.mem_map.mpr ⟨_,hfi.1,hfi.2⟩,(hany _).2 ⟨p,hpm,?_⟩⟩;have hnm:aV (aa L u.1)=true:=by
    obtain⟨p0,hp0,hyp⟩:=List.mem_flatMap.mp hfi.1;rw[hplc]at hp0;rw[←hfi.2];exact(sf (hdl p0 hp0) (mW hyp).1).2.2.1
   refine(tR (F:=F) _ p m (2*L.length+9) (E'++[(cQ L d,H)]) lp' (aa L u.1) false (Nat.le_refl _) hk.1 hk.2.2.2.2.1 (by have:=mC L p;omega) (kK k1 hk) hnm (by rw[←g2'];exact hud.1)).2 ⟨u,hup,hsec,g2',Or.inr ⟨q,?_,hq2,hq3⟩⟩;by_cases hqp:q<p
   ·exfalso;have:=hk.2.2.2.1 q ⟨hq2.1,hqp,by have:=hq2.2.2;simp only;omega⟩ hq1;rw[sQ this]at hq3;cases hq3
   ·omega
end
end Go.Proofs.YtdojfommmpnbgaaGreatDoor
