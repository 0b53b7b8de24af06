import Derived.Test.YtdgihicpjonjgaaGreatDoorZCapsA
import Derived.Test.YtdgihicpjonjgaaGreatDoorZLoopW
import Derived.Test.YtdgihicpjonjgaaGreatDoorZLoops
namespace Go.Proofs.YtdgihicpjonjgaaGreatDoor
open Go.RowKit
theorem giv_mem {L:List ByteArray} {x:Int}:∀ ps,x∈givL L ps↔∃ p∈ps,isW (sgAt L p) [40]=true∧x=p+2
 | []=>⟨(fun h=>by cases h),fun ⟨_,h,_⟩=>by cases h⟩
 | p :: ps=>by
  have ih:=giv_mem (L:=L) (x:=x) ps
  show x∈(if isW (sgAt L p) [40] then (p+2) :: givL L ps else givL L ps)↔_
  constructor
  ·intro h
   split at h
   ·rename_i h1
    rcases List.mem_cons.mp h with rfl | h
    ·exact ⟨p,List.mem_cons_self ..,h1,rfl⟩
    ·obtain ⟨q,hq,h2⟩:=ih.1 h
     exact ⟨q,List.mem_cons_of_mem _ hq,h2⟩
   ·obtain ⟨q,hq,h2⟩:=ih.1 h
    exact ⟨q,List.mem_cons_of_mem _ hq,h2⟩
  ·rintro ⟨q,hq,h1,h2⟩
   rcases List.mem_cons.mp hq with rfl | hq
   ·rw [if_pos h1,h2]
    exact List.mem_cons_self ..
   ·have:=ih.2 ⟨q,hq,h1,h2⟩
    split
    ·exact List.mem_cons_of_mem _ this
    ·exact this
theorem upL_pair {L:List ByteArray} {e:Int}:∀ ps i,UpL L ps i e→ps.Pairwise (fun x y=>itemE L x≤y)∧∀ x∈ps,i≤x∧itemE L x≤e
 | [],_,_=>⟨List.Pairwise.nil,fun x h=>by cases h⟩
 | p :: ps,i,h=>by
  obtain ⟨h1,h2,h3⟩:=h
  obtain ⟨g1,g2⟩:=upL_pair ps _ h3
  have he:=h2.ends
  have hle:=UpL.le h3
  refine ⟨List.Pairwise.cons (fun y hy=>(g2 y hy).1) g1,fun x hx=>?_⟩
  rcases List.mem_cons.mp hx with rfl | hx
  ·exact ⟨h1,hle⟩
  ·have:=g2 x hx
   omega
theorem any_giv {L:List ByteArray} (f:Int→Bool):∀ ps:List Int,(ps.any fun p=>isW (sgAt L p) [40] && f (p+2))=(givL L ps).any f
 | []=>rfl
 | p :: ps=>by
  rw [List.any_cons,any_giv f ps]
  show _=(if isW (sgAt L p) [40] then (p+2) :: givL L ps else givL L ps).any f
  cases isW (sgAt L p) [40]
  ·rfl
  ·rw [if_pos rfl,List.any_cons,Bool.true_and]
theorem par_sg (L:List ByteArray) (p:Int):parN L p=sgAt L (Q.parN L p):=by
 unfold parN Q.parN
 split <;> rfl
set_option maxHeartbeats 1000000 in
theorem strc_fn {L:List ByteArray} {F:Nat→Bool} {i:Int} {m n:Nat} {E:Q.Blks} {lp:Bool} (hv:ItV L i) (ho:isW (sgAt L i) [40]=true) (hc:isW (sgAt L (i+1)) [102,110]=true) (hm:2 * farN L i+1≤m+2) (hn:2 * farN L i≤n+2):∃ pre Sub,Strc L F i (m+2) (n+2) E lp pre Sub:=by
 have h0:=(sgAt_open ho).1
 have hp:=hv.plain ho
 obtain ⟨hit1,kx,ex,hchx,hex0,hex1,hex,hitx⟩:=hv.parts ho
 obtain ⟨hb,kk,e7,m7,e6,c1,c2,c3,c4,c5,c6,c7,c8,c9,c10⟩:=hv.fn ho hc
 have cq:=chainQ_ends kk _ c1 c2
 have cd:=chain_ends m7 _ c6 c7
 obtain ⟨q1,hdl⟩:=chain_deeds m7 _ c6
 have hI2:itemE L (i+2)=e7+1:=by
  obtain ⟨_,_,hz,_⟩:=chI_next hchx (by omega)
  obtain ⟨k2,e2,g1,g2,g3,g4,g5⟩:=item_parts hb hz
  rw [show i+2+1=i+3 by omega] at g1
  obtain ⟨_,g6⟩:=chI_one _ _ _ g1 (chI_Q kk _ c1) (itemE_none (Or.inr (Or.inr g4))) (itemE_none (Or.inr (Or.inr c4)))
  rw [g5,g6]
 have j1:chI L 2 (i+1) (e7+1):=⟨by omega,by rw [hit1];exact ⟨by omega,hI2⟩⟩
 have hkI:=chI_V m7 _ q1
 obtain ⟨hch,hPc⟩:=chI_app 2 m7 _ j1 hkI
 have hlt:=chainP_lt m7 _ q1 c7
 have hpar:∀ p∈chainP L m7 (e7+1),∀ q,Anc L q p↔(Anc L q i∨q=i):=fun p hp q=>anc_child ho hch c7 c10 (by rw [hPc];exact List.mem_append.mpr (Or.inr hp))
 have hpar2:∀ q,Anc L q (i+2)↔(Anc L q i∨q=i):=fun q=>anc_child ho hch c7 c10 (by rw [hPc];refine List.mem_append.mpr (Or.inl ?_);show i+2∈[i+1,itemE L (i+1)];rw [hit1];simp)
 have hQI:=chI_Q kk _ c1
 have hI2':itemE L (i+2)=e7+1:=hI2
 have hlist:chI L kk (i+2+1) e7:=by rw [show i+2+1=i+3 by omega];exact hQI
 have hpar3:∀ p∈chainP L kk (i+3),∀ q,Anc L q p↔(Anc L q (i+2)∨q=i+2):=fun p hp q=>anc_child hb hlist c2 hI2' (by rw [show i+2+1=i+3 by omega];exact hp)
 have hall:=chainQ_all kk _ c1 c2
 have hdl2:dff L (i+2)=false:=by
  have e3:i+2+1=i+3:=by omega
  cases kk with
  | zero =>
   have:i+3=e7:=c1
   exact dff_word (c:=[41]) (by rw [e3,this];exact c4) (by decide) (by decide) (by decide)
  | succ kk =>
   rcases (par_at c1.1).2.2 with ⟨p1,_⟩ | ⟨_,p2,_⟩
   ·exact dff_word (c:=[40]) (by rw [e3];exact p1) (by decide) (by decide) (by decide)
   ·exact dff_nm (by rw [e3];exact p2)
 have hdf:=dff_fn hc
 -- a PARAM
 have hprm:∀ p∈chainP L kk (i+3),0≤p∧i+3≤p∧itemE L p≤e7∧((isW (sgAt L p) [40]=true∧nmB (sgAt L (p+1))=true∧ItV L (p+2)∧itemE L p=itemE L (p+2)+1∧(∀ q,Anc L q (p+1)↔(Anc L q p∨q=p))∧∀ q,Anc L q (p+2)↔(Anc L q p∨q=p))∨(isW (sgAt L p) [40]=false∧nmB (sgAt L p)=true∧itemE L p=p+1)):=fun p hpm=>by
  obtain ⟨a1,a2,a3⟩:=hall p hpm
  obtain ⟨b1,b2,b3⟩:=par_at a1
  refine ⟨b1,a2,a3,?_⟩
  rcases b3 with ⟨b4,b5,b6,b7,b8⟩ | b4
  ·left
   have hi1:itemE L (p+1)=p+2:=by rw [item_one (by omega) b6 (nm_plain b5)];omega
   have hve:=b7.ends
   have hcc:chI L 2 (p+1) (itemE L (p+2)):=⟨by omega,by rw [hi1];exact ⟨by omega,rfl⟩⟩
   have hcp:chainP L 2 (p+1)=[p+1,p+2]:=by
    show [p+1,itemE L (p+1)]=_
    rw [hi1]
   exact ⟨b4,b5,b7,b8,fun q=>anc_child b4 hcc (by omega) b8 (by rw [hcp];simp),fun q=>anc_child b4 hcc (by omega) b8 (by rw [hcp];simp)⟩
  ·exact Or.inr b4
 have hup:∀ p∈chainP L kk (i+3),∀ q,(Anc L q p∨q=p)→i < q→(q=i+2∨q=p):=fun p hpm q hq hqi=>by
  rcases hq with hq | rfl
  ·rcases (hpar3 p hpm q).1 hq with h1 | rfl
   ·rcases (hpar2 q).1 h1 with h2 | rfl
    ·have:=h2.2.1
     omega
    ·omega
   ·exact Or.inl rfl
  ·exact Or.inr rfl
 have hanci:∀ p∈chainP L kk (i+3),Anc L i p:=fun p hpm=>(hpar3 p hpm i).2 (Or.inl ((hpar2 i).2 (Or.inr rfl)))
 have hplcp:=plc_par c1 c2 c3 c4
 have hplcd:plc L (e7+1)=chainP L m7 (e7+1):=plc_chain q1 c7 (by omega) (endB_shut c9)
 have hPP:∀ y∈(chainP L kk (i+3)).map (Q.parN L),0≤y∧Ow L i y:=fun y hy=>by
  obtain ⟨p,hpm,rfl⟩:=List.mem_map.mp hy
  obtain ⟨b1,b2,b3,b4⟩:=hprm p hpm
  unfold Q.parN
  rcases b4 with ⟨b4,b5,b6,b7,b8,b9⟩ | ⟨b4,b5,b6⟩
  ·rw [b4,if_pos rfl]
   refine ⟨by omega,Or.inr ⟨(b8 i).2 (Or.inl (hanci p hpm)),hdf⟩,fun q hq hdq=>?_⟩
   by_cases hqi:q≤i
   ·exact hqi
   ·rcases hup p hpm q ((b8 q).1 hq) (by omega) with rfl | rfl
    ·rw [hdl2] at hdq
     cases hdq
    ·rw [dff_nm b5] at hdq
     cases hdq
  ·rw [b4,if_neg (by decide)]
   refine ⟨b1,Or.inr ⟨hanci p hpm,hdf⟩,fun q hq hdq=>?_⟩
   by_cases hqi:q≤i
   ·exact hqi
   ·rcases hup p hpm q (Or.inl hq) (by omega) with rfl | rfl
    ·rw [hdl2] at hdq
     cases hdq
    ·have:=hq.2.1
     omega
 have hB1:=blk_ow c6 hpar hdf false
 have hB2:=blk_ow c6 hpar hdf true
 have hkp:kpB L F i=true:=by
  unfold kpB fnB
  rw [ho,hc]
  rfl
 obtain ⟨g1,g2⟩:=upL_pair _ _ (upL_giv kk _ c1 c2)
 obtain ⟨ps,hps⟩:∃ ps,ps=chainP L kk (i+3):=⟨_,rfl⟩
 obtain ⟨ds,hds⟩:∃ ds,ds=chainP L m7 (e7+1):=⟨_,rfl⟩
 rw [← hps] at hprm hup hanci hplcp hPP g1 g2
 rw [← hds] at hlt hpar hplcd hB1 hB2 hdl
 obtain ⟨PP,hPPe⟩:∃ PP,PP=ps.map (Q.parN L):=⟨_,rfl⟩
 obtain ⟨BP,hBPe⟩:∃ BP,BP=ds.flatMap (Q.pieceD L false):=⟨_,rfl⟩
 obtain ⟨BH,hBHe⟩:∃ BH,BH=ds.flatMap (Q.pieceD L true):=⟨_,rfl⟩
 rw [← hPPe] at hPP
 rw [← hBPe] at hB1
 rw [← hBHe] at hB2
 refine ⟨[],(givL L ps).map (fun x=>⟨x,[(PP,[])],m+1,n+1,false⟩)++ds.map (fun x=>⟨x,[(PP,[]),(BP,BH)],m,n,false⟩),?_,(fun u hu=>by cases hu),fun t ht=>?_,?_,fun d d1 d2 d3=>?_,fun s fn hs=>?_⟩
 ·have e1:Q.wk L (m+2) 0 false i ⟨E,lp⟩=Q.fnO L (Q.wk L (m+1)) i ⟨E,lp⟩:=Q.itw_fn (Q.wk L (m+1)) ⟨E,lp⟩ ho hc
  rw [e1]
  unfold Q.fnO
  rw [hplcp,c5,Q.outs_giv,← hPPe]
  have e2:∀ v K,(Q.wk L (m+1) 1 v (e7+1) K).us=(Q.outs (fun p=>Q.wk L m 0 false p (Q.addB K ((plc L (e7+1)).flatMap (Q.pieceD L false)) ((plc L (e7+1)).flatMap (Q.pieceD L true)))) (plc L (e7+1))).us:=fun _ _=>rfl
  show (Q.outs _ _).us++(Q.wk L (m+1) 1 _ (e7+1) _).us=_
  rw [e2,hplcd,← hBPe,← hBHe,outs_us,outs_us,List.nil_append,List.flatMap_append,List.flatMap_map,List.flatMap_map]
  congr 1
  refine congrArg (fun f=>ds.flatMap f) (funext fun x=>?_)
  show _=(Q.wk L m 0 false x ⟨E++[(PP,[]),(BP,BH)],false⟩).us
  rw [show E++[(PP,[]),(BP,BH)]=(E++[(PP,[])])++[(BP,BH)] by simp]
  rfl
 ·rcases List.mem_append.mp ht with ht | ht
  ·obtain ⟨x,hx,rfl⟩:=List.mem_map.mp ht
   obtain ⟨p,hpm,h40,rfl⟩:=(giv_mem ps).1 hx
   obtain ⟨b1,b2,b3,b4⟩:=hprm p hpm
   rcases b4 with ⟨b4,b5,b6,b7,b8,b9⟩ | ⟨b4,_⟩
   ·have hve:=b6.ends
    have hfar:=far_lt (L:=L) (i:=i) (j:=p+2) h0 (by omega) (by omega)
    refine ⟨b6,(b9 i).2 (Or.inl (hanci p hpm)),fun Z hZ=>?_,fun q hq hqi=>?_,?_,?_,?_⟩
    ·rw [List.mem_singleton] at hZ
     subst hZ
     exact ⟨hPP,fun y hy=>by cases hy⟩
    ·rcases hup p hpm q ((b9 q).1 hq) hqi with rfl | rfl
     ·exact hdl2
     ·exact dff_nm b5
    ·show 2 * farN L (p+2)+1≤m+1
     omega
    ·show 2 * farN L (p+2)≤n+1
     omega
    ·show farN L (p+2) < farN L i
     omega
   ·rw [h40] at b4
    cases b4
  ·obtain ⟨x,hx,rfl⟩:=List.mem_map.mp ht
   obtain ⟨a1,a2,a3,a4⟩:=hlt x hx
   have hfar:=far_lt (L:=L) (i:=i) (j:=x) h0 (by omega) (by omega)
   refine ⟨a3,(hpar x hx i).2 (Or.inr rfl),fun Z hZ=>?_,fun q hq hqi=>?_,?_,?_,?_⟩
   ·simp only [List.mem_cons,List.not_mem_nil,or_false] at hZ
    rcases hZ with rfl | rfl
    ·exact ⟨hPP,fun y hy=>by cases hy⟩
    ·exact ⟨hB1,hB2⟩
   ·rcases (hpar x hx q).1 hq with h1 | rfl
    ·have:=h1.2.1
     omega
    ·omega
   ·show 2 * farN L x+1≤m
    omega
   ·show 2 * farN L x≤n
    omega
   ·show farN L x < farN L i
    omega
 ·rw [List.pairwise_append]
  refine ⟨by rw [List.pairwise_map];exact g1,by rw [List.pairwise_map,hds];exact chainV_pair m7 _ q1 c7,fun t ht t' ht'=>?_⟩
  obtain ⟨x,hx,rfl⟩:=List.mem_map.mp ht
  obtain ⟨y,hy,rfl⟩:=List.mem_map.mp ht'
  have h1:=(g2 x hx).2
  have h2:=(hlt y hy).1
  show itemE L x≤y
  omega
 ·by_cases hda:d < e7+1
  ·exact Exists.elim (show ∃ p∈ps,isW (sgAt L p) [40]=true∧p+2≤d∧d < itemE L (p+2) from by
    obtain ⟨o1,o2⟩:=do_open d3
    have e1:d≠i+1:=fun h=>by rw [h,hp.1] at o1;cases o1
    have e2:d≠i+2:=fun h=>by
     rw [h] at o2
     rw [dff_do o2] at hdl2
     cases hdl2
    have e3:d≠e7:=fun h=>by rw [h,isW_other c4 (by decide)] at o1;cases o1
    obtain ⟨p,pm,p1,p2,p3⟩:=chI_find (q:=d) kk _ hQI (by omega) (by omega)
    rw [← hps] at pm
    obtain ⟨b1,b2,b3,b4⟩:=hprm p pm
    rcases b4 with ⟨b4,b5,b6,b7,b8,b9⟩ | ⟨b4,b5,b6⟩
    ·have f1:d≠p:=fun h=>by
      rw [h] at d3
      rw [do_nm b5] at d3
      cases d3
     have f2:d≠p+1:=fun h=>by rw [h,(nm_plain b5).1] at o1;cases o1
     have f3:d≠itemE L (p+2):=fun h=>by
      have hve:=b6.ends
      obtain ⟨k9,e9,z1,z2,z3,z4,z5⟩:=item_parts b4 (by omega)
      rw [h,show itemE L (p+2)=e9 by omega,isW_other z4 (by decide)] at o1
      cases o1
     exact ⟨p,pm,b4,by omega,by omega⟩
    ·have:d=p:=by omega
     rw [this,b4] at o1
     cases o1) fun p ⟨pm,p1,p2,p3⟩=>⟨_,List.mem_append.mpr (Or.inl (List.mem_map.mpr ⟨p+2,(giv_mem ps).2 ⟨p,pm,p1,rfl⟩,rfl⟩)),p2,p3⟩
  ·have hde:d≠e6:=fun h=>by
    rw [h,do_not (isW_other c9 (by decide))] at d3
    cases d3
   obtain ⟨c,cm,z1,z2,z3⟩:=chI_find (q:=d) m7 _ hkI (by omega) (by omega)
   rw [← hds] at cm
   exact ⟨_,List.mem_append.mpr (Or.inr (List.mem_map.mpr ⟨c,cm,rfl⟩)),z1,z2⟩
 ·have hu:us L F (n+2) 0 i s fn=(if inB ((plc L (i+3)).map (parN L)) s then false else if (plc L (i+3)).any (fun p=>isW (sgAt L p) [40] && us L F (n+1) 0 (p+2) s true) then true else if inB (decN L (bodyI L i)) s then false else us L F (n+1) 1 (bodyI L i) s true):=usw_fn (us L F (n+1)) s fn ho hc
  have hdn:decN L (e7+1)=BP.map (sgAt L):=by
   unfold decN
   rw [hplcd,hBPe,flat_map _ hdl]
  have hpn:ps.map (parN L)=PP.map (sgAt L):=by
   rw [hPPe,List.map_map]
   exact List.map_congr_left fun p _=>par_sg L p
  rw [hu,hplcp,c5,hpn,hdn,any_giv (fun x=>us L F (n+1) 0 x s true),fst_in fun p hp=>(hPP p hp).1,fst_in fun p hp=>(hB1 p hp).1,hkp,Bool.or_true]
  have hany:=any_us (F:=F) n (e7+1) s true q1 c9
  rw [← hds] at hany
  constructor
  ·intro h
   right
   split at h
   ·cases h
   ·rename_i h1
    have h1':¬ 0≤Q.fstP L PP s:=fun h3=>h1 (decide_eq_true h3)
    split at h
    ·rename_i h2
     obtain ⟨x,hx,h3⟩:=List.any_eq_true.mp h2
     refine ⟨_,List.mem_append.mpr (Or.inl (List.mem_map.mpr ⟨x,hx,rfl⟩)),fun Z hZ=>?_,h3⟩
     rw [List.mem_singleton] at hZ
     subst hZ
     exact h1'
    ·split at h
     ·cases h
     ·rename_i h3
      obtain ⟨x,hx,h4⟩:=hany.1 h
      refine ⟨_,List.mem_append.mpr (Or.inr (List.mem_map.mpr ⟨x,hx,rfl⟩)),fun Z hZ=>?_,h4⟩
      simp only [List.mem_cons,List.not_mem_nil,or_false] at hZ
      rcases hZ with rfl | rfl
      ·exact h1'
      ·exact fun h5=>h3 (decide_eq_true h5)
  ·rintro (h1 | ⟨t,ht,h1,h2⟩)
   ·exact absurd h1 none_pre
   ·rcases List.mem_append.mp ht with ht | ht
    ·obtain ⟨x,hx,rfl⟩:=List.mem_map.mp ht
     rw [if_neg (fun h3=>h1 _ (List.mem_singleton.mpr rfl) (of_decide_eq_true h3)),if_pos (List.any_eq_true.mpr ⟨x,hx,h2⟩)]
    ·obtain ⟨x,hx,rfl⟩:=List.mem_map.mp ht
     rw [if_neg (fun h3=>h1 (PP,[]) (List.mem_cons_self ..) (of_decide_eq_true h3))]
     split
     ·rfl
     ·rw [if_neg (fun h3=>h1 (BP,BH) (List.mem_cons_of_mem _ (List.mem_cons_self ..)) (of_decide_eq_true h3))]
      exact hany.2 ⟨x,hx,h2⟩
theorem strc_any {L:List ByteArray} {F:Nat→Bool} {i:Int} {m n:Nat} {E:Q.Blks} {lp:Bool} (hv:ItV L i) (hm:2 * farN L i+1≤m) (hn:2 * farN L i≤n):∃ pre Sub,Strc L F i m n E lp pre Sub:=by
 have hve:=hv.ends
 have hfp:=far_pos (L:=L) hve.1 (by omega)
 obtain ⟨m,rfl⟩:∃ k,m=k+2:=⟨m - 2,by omega⟩
 obtain ⟨n,rfl⟩:∃ k,n=k+2:=⟨n - 2,by omega⟩
 cases ho:isW (sgAt L i) [40]
 ·exact strc_leaf hv ho
 cases h1:isW (sgAt L (i+1)) [104,105,100,100,101,110]
 rotate_left
 ·exact strc_hidden hv ho h1
 cases h2:isW (sgAt L (i+1)) [118,97,114,115]
 rotate_left
 ·exact strc_vars hv ho h2
 cases h3:isW (sgAt L (i+1)) [108,101,116]
 rotate_left
 ·exact strc_let hv ho h3 hm hn
 cases h4:isW (sgAt L (i+1)) [116,97,107,101]
 rotate_left
 ·exact strc_take hv ho h4 hm hn
 cases h5:isW (sgAt L (i+1)) [115,101,116]
 rotate_left
 ·exact strc_set hv ho h5 hm hn
 cases h6:isW (sgAt L (i+1)) [104,103,101,116]
 rotate_left
 ·exact strc_hget hv ho h6 hm hn
 cases h7:isW (sgAt L (i+1)) [104,112,117,116]
 rotate_left
 ·exact strc_hput hv ho h7 hm hn
 cases h8:isW (sgAt L (i+1)) [102,110]
 rotate_left
 ·exact strc_fn hv ho h8 hm hn
 cases h9:isW (sgAt L (i+1)) [100,111]
 rotate_left
 ·obtain ⟨pre,Sub,h,_⟩:=strc_do (F:=F) (E:=E) (lp:=lp) hv ho h9 hm hn
  exact ⟨pre,Sub,h⟩
 cases h10:isW (sgAt L (i+1)) [119,104,105,108,101]
 rotate_left
 ·exact strc_while hv ho h10 hm hn
 cases h11:isW (sgAt L (i+1)) [102,111,114]
 rotate_left
 ·exact strc_for hv ho h11 hm hn
 cases h12:isW (sgAt L (i+1)) [108,101,97,118,101]
 rotate_left
 ·exact strc_leave hv ho h12 hm hn
 cases h13:isW (sgAt L (i+1)) [110,101,120,116]
 rotate_left
 ·exact strc_next hv ho h13 hm hn
 exact strc_rest hv ho h1 h2 h3 h4 h5 h6 h7 h8 h9 h10 h11 h12 h13 hm hn
end Go.Proofs.YtdgihicpjonjgaaGreatDoor
namespace Go.Proofs.YtdgihicpjonjgaaGreatDoor
open Go.RowKit
section
variable {L:List ByteArray} {F:Nat→Bool}
theorem fst_is {X:List Int} {s:ByteArray} (h:0≤Q.fstP L X s):Q.fstP L X s∈X∧sgAt L (Q.fstP L X s)=s:=by
 unfold Q.fstP at h ⊢
 cases hf:X.find? fun p=>Q.eqT (sgAt L p) s with
 | none =>
  rw [hf] at h
  exact absurd h (by decide)
 | some p=>exact ⟨List.mem_of_find?_eq_some hf,Q.eqT_iff.1 (List.find?_some (p:=fun p=>Q.eqT (sgAt L p) s) hf)⟩
theorem res_more (q:Bool) (s:ByteArray):∀ (B:Q.Blks) (k:Int),((∀ Z∈B,¬ 0≤Q.fstP L (Q.sideL q Z.1 Z.2) s)∧B.foldl (fun m Z=>if 0≤Q.fstP L (Q.sideL q Z.1 Z.2) s then Q.fstP L (Q.sideL q Z.1 Z.2) s else m) k=k)∨∃ Z∈B,0≤Q.fstP L (Q.sideL q Z.1 Z.2) s∧B.foldl (fun m Z=>if 0≤Q.fstP L (Q.sideL q Z.1 Z.2) s then Q.fstP L (Q.sideL q Z.1 Z.2) s else m) k=Q.fstP L (Q.sideL q Z.1 Z.2) s
 | [],k=>Or.inl ⟨(fun Z h=>by cases h),rfl⟩
 | Z :: B,k=>by
  rw [List.foldl_cons]
  by_cases hz:0≤Q.fstP L (Q.sideL q Z.1 Z.2) s
  ·rw [if_pos hz]
   rcases res_more q s B (Q.fstP L (Q.sideL q Z.1 Z.2) s) with ⟨_,h2⟩ | ⟨Y,h1,h2,h3⟩
   ·exact Or.inr ⟨Z,List.mem_cons_self ..,hz,h2⟩
   ·exact Or.inr ⟨Y,List.mem_cons_of_mem _ h1,h2,h3⟩
  ·rw [if_neg hz]
   rcases res_more q s B k with ⟨h1,h2⟩ | ⟨Y,h1,h2,h3⟩
   ·refine Or.inl ⟨fun Y hY=>?_,h2⟩
    rcases List.mem_cons.mp hY with rfl | hY
    ·exact hz
    ·exact h1 Y hY
   ·exact Or.inr ⟨Y,List.mem_cons_of_mem _ h1,h2,h3⟩
theorem res_app (q:Bool) (s:ByteArray) (E B:Q.Blks):((∀ Z∈B,¬ 0≤Q.fstP L (Q.sideL q Z.1 Z.2) s)∧Q.resQ L q (E++B) s=Q.resQ L q E s)∨∃ Z∈B,0≤Q.fstP L (Q.sideL q Z.1 Z.2) s∧Q.resQ L q (E++B) s=Q.fstP L (Q.sideL q Z.1 Z.2) s:=by
 unfold Q.resQ
 rw [List.foldl_append]
 exact res_more q s B _
theorem res_mem {q:Bool} {s:ByteArray} {E:Q.Blks} (h:0≤Q.resQ L q E s):∃ Z∈E,Q.resQ L q E s∈Q.sideL q Z.1 Z.2∧sgAt L (Q.resQ L q E s)=s:=by
 unfold Q.resQ at h ⊢
 rcases res_more (L:=L) q s E (-1) with ⟨_,h2⟩ | ⟨Z,h1,h2,h3⟩
 ·rw [h2] at h
  omega
 ·rw [h3]
  exact ⟨Z,h1,fst_is h2⟩
def EnvO (L:List ByteArray) (E:Q.Blks) (i:Int):Prop:=∀ Z∈E,(∀ y∈Z.1,0≤y∧∃ o,Ow L o y∧(o=-1∨Anc L o i))∧∀ y∈Z.2,0≤y∧∃ o,Ow L o y∧(o=-1∨Anc L o i)
theorem env_side {E:Q.Blks} {i:Int} (h:EnvO L E i) {Z:List Int × List Int} (hZ:Z∈E) {q:Bool} {y:Int} (hy:y∈Q.sideL q Z.1 Z.2):0≤y∧∃ o,Ow L o y∧(o=-1∨Anc L o i):=by
 cases q
 ·exact (h Z hZ).1 y hy
 ·exact (h Z hZ).2 y hy
theorem env_res {E:Q.Blks} {i:Int} (h:EnvO L E i) {q:Bool} {s:ByteArray} (h0:0≤Q.resQ L q E s):∃ o,Ow L o (Q.resQ L q E s)∧(o=-1∨Anc L o i):=by
 obtain ⟨Z,hZ,h1,_⟩:=res_mem h0
 exact (env_side h hZ h1).2
theorem sb_side {i:Int} {t:Sb} (h:SbOk L i t) {Z:List Int × List Int} (hZ:Z∈t.B) {q:Bool} {y:Int} (hy:y∈Q.sideL q Z.1 Z.2):0≤y∧Ow L i y:=by
 cases q
 ·exact (h.2.2.1 Z hZ).1 y hy
 ·exact (h.2.2.1 Z hZ).2 y hy
theorem env_step {E:Q.Blks} {i:Int} {t:Sb} (h:EnvO L E i) (ht:SbOk L i t):EnvO L (E++t.B) t.x:=fun Z hZ=>by
 rcases List.mem_append.mp hZ with hZ | hZ
 ·obtain ⟨h1,h2⟩:=h Z hZ
  have key:∀ o,(o=-1∨Anc L o i)→(o=-1∨Anc L o t.x):=fun o ho=>ho.imp id fun ho=>anc_trans ho ht.2.1
  exact ⟨fun y hy=>⟨(h1 y hy).1,by obtain ⟨o,a,b⟩:=(h1 y hy).2;exact ⟨o,a,key o b⟩⟩,fun y hy=>⟨(h2 y hy).1,by obtain ⟨o,a,b⟩:=(h2 y hy).2;exact ⟨o,a,key o b⟩⟩⟩
 ·obtain ⟨h1,h2⟩:=ht.2.2.1 Z hZ
  exact ⟨fun y hy=>⟨(h1 y hy).1,i,(h1 y hy).2,Or.inr ht.2.1⟩,fun y hy=>⟨(h2 y hy).1,i,(h2 y hy).2,Or.inr ht.2.1⟩⟩
theorem sb_range {i:Int} {t:Sb} (h:SbOk L i t):i < t.x∧itemE L t.x < itemE L i∧t.x < itemE L t.x:=by
 have h1:=anc_in h.2.1 h.1.not41
 exact ⟨h.2.1.2.1,h1.1,h1.2⟩
theorem uses_own:∀ (N:Nat) (i:Int) (m:Nat) (E:Q.Blks) (lp:Bool),farN L i≤N→ItV L i→2 * farN L i+1≤m→EnvO L E i→∀ u∈(Q.wk L m 0 false i ⟨E,lp⟩).us,(i≤u.1∧u.1 < itemE L i)∧(u.2.1=Q.resQ L u.2.2 E (sgAt L u.1)∨∃ o,Ow L o u.2.1∧i≤o∧o < itemE L i)
 | 0,i,m,E,lp,hN,hv,_,_,u,_=>by
  have hve:=hv.ends
  have:=far_pos (L:=L) hve.1 (by omega)
  omega
 | N+1,i,m,E,lp,hN,hv,hm,hE,u,hu=>by
  have hve:=hv.ends
  obtain ⟨pre,Sub,hS⟩:=strc_any (L:=L) (F:=fun _=>false) (i:=i) (m:=m) (n:=2 * farN L i) (E:=E) (lp:=lp) hv hm (Nat.le_refl _)
  rw [hS.wkE] at hu
  rcases List.mem_append.mp hu with hu | hu
  ·obtain ⟨h1,h2,h3,_⟩:=hS.preE u hu
   exact ⟨⟨h1,h2⟩,Or.inl h3⟩
  ·obtain ⟨t,ht,hut⟩:=List.mem_flatMap.mp hu
   have hok:=hS.okE t ht
   have hr:=sb_range hok
   obtain ⟨g1,g2⟩:=uses_own N t.x t.m (E++t.B) t.lp (by have:=hok.2.2.2.2.2.2;omega) hok.1 hok.2.2.2.2.1 (env_step hE hok) u hut
   refine ⟨by omega,?_⟩
   rcases g2 with g2 | ⟨o,o1,o2,o3⟩
   ·rcases res_app (L:=L) u.2.2 (sgAt L u.1) E t.B with ⟨_,h2⟩ | ⟨Z,h1,h2,h3⟩
    ·rw [h2] at g2
     exact Or.inl g2
    ·rw [h3] at g2
     have:=(sb_side hok h1 (fst_is h2).1).2
     rw [← g2] at this
     exact Or.inr ⟨i,this,Int.le_refl _,by omega⟩
   ·exact Or.inr ⟨o,o1,by omega,by omega⟩
theorem us_uses:∀ (N:Nat) (i:Int) (m n:Nat) (E:Q.Blks) (lp:Bool) (s:ByteArray) (fn:Bool),farN L i≤N→ItV L i→2 * farN L i+1≤m→2 * farN L i≤n→EnvO L E i→nmB s=true→0≤Q.resQ L false E s →
  (us L F n 0 i s fn=true↔∃ u∈(Q.wk L m 0 false i ⟨E,lp⟩).us,u.2.2=false∧u.2.1=Q.resQ L false E s∧(fn=true∨∃ q,i≤q∧Anc L q u.1∧kpB L F q=true))
 | 0,i,m,n,E,lp,s,fn,hN,hv,_,_,_,_,_=>by
  have hve:=hv.ends
  have:=far_pos (L:=L) hve.1 (by omega)
  omega
 | N+1,i,m,n,E,lp,s,fn,hN,hv,hm,hn,hE,hs,h0=>by
  have hve:=hv.ends
  obtain ⟨pre,Sub,hS⟩:=strc_any (L:=L) (F:=F) (i:=i) (m:=m) (n:=n) (E:=E) (lp:=lp) hv hm hn
  obtain ⟨d,hd1,hd2⟩:=env_res hE h0
  have hsn:=(res_mem h0).elim fun Z h=>h.2.2
  rw [hS.usE s fn hs,hS.wkE]
  constructor
  ·rintro (⟨u,hu,h1,h2,h3⟩ | ⟨t,ht,h1,h2⟩)
   ·obtain ⟨_,_,g3,_⟩:=hS.preE u hu
    refine ⟨u,List.mem_append.mpr (Or.inl hu),h1,?_,Or.inl h3⟩
    rw [g3,h1,h2]
   ·have hok:=hS.okE t ht
    have hr:=sb_range hok
    have hres:Q.resQ L false (E++t.B) s=Q.resQ L false E s:=by
     rcases res_app (L:=L) false s E t.B with ⟨_,g⟩ | ⟨Z,g1,g2,_⟩
     ·exact g
     ·exact absurd g2 (h1 Z g1)
    obtain ⟨u,hu,g1,g2,g3⟩:=(us_uses N t.x t.m t.n (E++t.B) t.lp s _ (by have:=hok.2.2.2.2.2.2;omega) hok.1 hok.2.2.2.2.1 hok.2.2.2.2.2.1 (env_step hE hok) hs (by rw [hres];exact h0)).1 h2
    have hur:=(uses_own N t.x t.m (E++t.B) t.lp (by have:=hok.2.2.2.2.2.2;omega) hok.1 hok.2.2.2.2.1 (env_step hE hok) u hu).1
    refine ⟨u,List.mem_append.mpr (Or.inr (List.mem_flatMap.mpr ⟨t,ht,hu⟩)),g1,by rw [g2,hres],?_⟩
    rcases g3 with g3 | ⟨q,q1,q2,q3⟩
    ·rw [Bool.or_eq_true] at g3
     rcases g3 with g3 | g3
     ·exact Or.inl g3
     ·exact Or.inr ⟨i,Int.le_refl _,⟨hok.2.1.1,by omega,by omega⟩,g3⟩
    ·exact Or.inr ⟨q,by omega,q2,q3⟩
  ·rintro ⟨u,hu,h1,h2,h3⟩
   rcases List.mem_append.mp hu with hu | hu
   ·obtain ⟨_,_,g3,g4⟩:=hS.preE u hu
    left
    refine ⟨u,hu,h1,?_,?_⟩
    ·have e1:Q.resQ L false E (sgAt L u.1)=Q.resQ L false E s:=by rw [← h2,g3,h1]
     have:=(res_mem (L:=L) (q:=false) (s:=sgAt L u.1) (E:=E) (by rw [e1];exact h0)).elim fun Z h=>h.2.2
     rw [e1,hsn] at this
     exact this.symm
    ·rcases h3 with h3 | ⟨q,q1,q2,q3⟩
     ·exact h3
     ·rw [kp_dff (g4 q q2 q1)] at q3
      cases q3
   ·right
    obtain ⟨t,ht,hut⟩:=List.mem_flatMap.mp hu
    have hok:=hS.okE t ht
    have hr:=sb_range hok
    obtain ⟨g1,g2⟩:=uses_own N t.x t.m (E++t.B) t.lp (by have:=hok.2.2.2.2.2.2;omega) hok.1 hok.2.2.2.2.1 (env_step hE hok) u hut
    have hdi:d < i:=by
     rcases hd2 with h | h
     ·omega
     ·exact h.2.1
    have key:(∀ Z∈t.B,¬ 0≤Q.fstP L Z.1 s)∧Q.resQ L false (E++t.B) s=Q.resQ L false E s:=by
     rcases g2 with g2 | ⟨o,o1,o2,o3⟩
     ·rw [h1] at g2
      rcases res_app (L:=L) false (sgAt L u.1) E t.B with ⟨g3,g4⟩ | ⟨Z,g3,g4,g5⟩
      ·have e1:Q.resQ L false E (sgAt L u.1)=Q.resQ L false E s:=by rw [← g4,← g2,h2]
       have:=(res_mem (L:=L) (q:=false) (s:=sgAt L u.1) (E:=E) (by rw [e1];exact h0)).elim fun Z h=>h.2.2
       rw [e1,hsn] at this
       rw [← this] at g3 g4
       exact ⟨g3,g4⟩
      ·exfalso
       rw [g5] at g2
       have:=(sb_side (q:=false) hok g3 (fst_is g4).1).2
       rw [← g2,h2] at this
       have:=ow_one this hd1
       omega
     ·exfalso
      rw [h2] at o1
      have:=ow_one o1 hd1
      omega
    refine ⟨t,ht,key.1,?_⟩
    refine (us_uses N t.x t.m t.n (E++t.B) t.lp s _ (by have:=hok.2.2.2.2.2.2;omega) hok.1 hok.2.2.2.2.1 hok.2.2.2.2.2.1 (env_step hE hok) hs (by rw [key.2];exact h0)).2 ⟨u,hut,h1,by rw [key.2];exact h2,?_⟩
    rcases h3 with h3 | ⟨q,q1,q2,q3⟩
    ·left
     rw [h3]
     rfl
    ·by_cases hqi:q=i
     ·left
      rw [← hqi,q3,Bool.or_true]
     ·by_cases hqt:q < t.x
      ·exfalso
       have:=hok.2.2.2.1 q ⟨q2.1,hqt,by have:=q2.2.2;omega⟩ (by omega)
       rw [kp_dff this] at q3
       cases q3
      ·exact Or.inr ⟨q,by omega,q2,q3⟩
theorem pair_mem {α:Type} {R:α→α→Prop}:∀ {l:List α},l.Pairwise R→∀ a∈l,∀ b∈l,a=b∨R a b∨R b a
 | [],_,a,ha,_,_=>by cases ha
 | x :: l,h,a,ha,b,hb=>by
  rw [List.pairwise_cons] at h
  rcases List.mem_cons.mp ha with ha2 | ha2
  ·rcases List.mem_cons.mp hb with hb2 | hb2
   ·exact Or.inl (ha2.trans hb2.symm)
   ·rw [ha2]
    exact Or.inr (Or.inl (h.1 b hb2))
  ·rcases List.mem_cons.mp hb with hb2 | hb2
   ·rw [hb2]
    exact Or.inr (Or.inr (h.1 a ha2))
   ·exact pair_mem h.2 a ha2 b hb2
noncomputable def ownP (L:List ByteArray) (d:Int):List Int:=(plc L (d+2)).flatMap (Q.pieceD L false)
theorem own_do {d:Int} (hv:ItV L d) (hd:doB L d=true):∀ y∈ownP L d,0≤y∧Ow L d y:=fun y hy=>by
 obtain ⟨o1,o2⟩:=do_open hd
 have hfp:=far_pos (L:=L) hv.ends.1 (by have:=hv.ends;omega)
 obtain ⟨pre,Sub,hS,_,hSub⟩:=strc_do (L:=L) (F:=fun _=>false) (i:=d) (m:=2 * farN L d+1) (n:=2 * farN L d) (E:=[]) (lp:=false) hv o1 o2 (by omega) (by omega)
 obtain ⟨p,hp,_⟩:=List.mem_flatMap.mp hy
 have hok:=hS.okE ⟨p,_,_,_,_⟩ (by rw [hSub];exact List.mem_map.mpr ⟨p,hp,rfl⟩)
 exact (hok.2.2.1 _ (List.mem_singleton.mpr rfl)).1 y hy
theorem loc_do {d:Int} (hd:doB L d=true) (hvd:ItV L d):∀ (N:Nat) (i:Int) (m:Nat) (E:Q.Blks) (lp:Bool),farN L i≤N→ItV L i→2 * farN L i+1≤m→EnvO L E i→i≤d→d < itemE L i →
  ∃ m' E' lp',EnvO L E' d∧2 * farN L d+1≤m'∧∀ u:Int × Int × Bool,u.2.1∈ownP L d→(u∈(Q.wk L m 0 false i ⟨E,lp⟩).us↔u∈(Q.wk L m' 0 false d ⟨E',lp'⟩).us)
 | 0,i,m,E,lp,hN,hv,_,_,_,_=>by
  have hve:=hv.ends
  have:=far_pos (L:=L) hve.1 (by omega)
  omega
 | N+1,i,m,E,lp,hN,hv,hm,hE,h1,h2=>by
  by_cases hid:i=d
  ·subst hid
   exact ⟨m,E,lp,hE,hm,fun u _=>Iff.rfl⟩
  have hve:=hv.ends
  have hde:=hvd.ends
  obtain ⟨pre,Sub,hS⟩:=strc_any (L:=L) (F:=fun _=>false) (i:=i) (m:=m) (n:=2 * farN L i) (E:=E) (lp:=lp) hv hm (Nat.le_refl _)
  obtain ⟨t,ht,t1,t2⟩:=hS.coverE d (by omega) h2 hd
  have hok:=hS.okE t ht
  obtain ⟨m',E',lp',k1,k2,k3⟩:=loc_do hd hvd N t.x t.m (E++t.B) t.lp (by have:=hok.2.2.2.2.2.2;omega) hok.1 hok.2.2.2.2.1 (env_step hE hok) t1 t2
  refine ⟨m',E',lp',k1,k2,fun u hu=>?_⟩
  have hud:=own_do hvd hd u.2.1 hu
  rw [← k3 u hu,hS.wkE]
  have hdt:itemE L d≤itemE L t.x:=by
   by_cases hdx:d=t.x
   ·rw [hdx]
    exact Int.le_refl _
   ·have hto:isW (sgAt L t.x) [40]=true:=by
     cases hz:isW (sgAt L t.x) [40]
     ·have:=item_plain (by have:=hok.1.ends;omega) hz
      omega
     ·rfl
    have:=nest _ t.x d (Nat.le_refl _) hto (by have:=hok.1.ends;omega) (by omega) t2 hvd.not41
    omega
  constructor
  ·intro h
   rcases List.mem_append.mp h with h | h
   ·exfalso
    obtain ⟨_,_,g3,_⟩:=hS.preE u h
    have h0:0≤Q.resQ L u.2.2 E (sgAt L u.1):=by rw [← g3];exact hud.1
    obtain ⟨o,o1,o2⟩:=env_res hE h0
    rw [← g3] at o1
    have:=ow_one o1 hud.2
    rcases o2 with o2 | o2
    ·omega
    ·have:=o2.2.1
     omega
   ·obtain ⟨t',ht',hut⟩:=List.mem_flatMap.mp h
    rcases pair_mem hS.apartE t ht t' ht' with h3 | h3
    ·rw [h3]
     exact hut
    ·exfalso
     have hok':=hS.okE t' ht'
     have hve':=hok'.1.ends
     obtain ⟨g1,g2⟩:=uses_own N t'.x t'.m (E++t'.B) t'.lp (by have:=hok'.2.2.2.2.2.2;omega) hok'.1 hok'.2.2.2.2.1 (env_step hE hok') u hut
     rcases g2 with g2 | ⟨o,o1,o2,o3⟩
     ·have h0:0≤Q.resQ L u.2.2 (E++t'.B) (sgAt L u.1):=by rw [← g2];exact hud.1
      obtain ⟨o,o1,o2⟩:=env_res (env_step hE hok') h0
      rw [← g2] at o1
      have:=ow_one o1 hud.2
      rcases o2 with o2 | o2
      ·omega
      ·have:=o2.2.1
       have:=o2.2.2
       rw [show o=d by omega] at this
       omega
     ·have:=ow_one o1 hud.2
      omega
  ·exact fun h=>List.mem_append.mpr (Or.inr (List.mem_flatMap.mpr ⟨t,ht,h⟩))
end
end Go.Proofs.YtdgihicpjonjgaaGreatDoor
namespace Go.Proofs.YtdgihicpjonjgaaGreatDoor
open Go.RowKit
section
variable {L:List ByteArray} {F:Nat→Bool}
noncomputable def useL (L:List ByteArray):List (Int × Int × Bool):=(Q.findO L).us
theorem do_item (hp:playB L=true) {d:Int} (hd:doB L d=true):ItV L d:=by
 obtain ⟨o1,o2⟩:=do_open hd
 obtain ⟨h0,h1⟩:=sgAt_open o1
 exact Or.inr (play_dv hp (dv_in o2 (by decide)))
theorem loc_top (hp:playB L=true) {d:Int} (hd:doB L d=true):∃ m' E' lp',EnvO L E' d∧2 * farN L d+1≤m'∧∀ u:Int × Int × Bool,u.2.1∈ownP L d→(u∈useL L↔u∈(Q.wk L m' 0 false d ⟨E',lp'⟩).us):=by
 have hvd:=do_item hp hd
 have hde:=hvd.ends
 obtain ⟨o1,o2⟩:=do_open hd
 obtain ⟨k,hkd⟩:=play_deeds hp
 obtain ⟨q1,hdl⟩:=chain_deeds k _ hkd
 have hkI:=chI_V k _ q1
 have hplc:=plc_chain q1 (by omega) (Int.le_refl _) (Or.inl rfl)
 have hlt:=chainP_lt k _ q1 (by omega)
 have hno:∀ p∈chainP L k 0,∀ q,¬ Anc L q p:=fun p hpm q=>anc_top hkI (by omega) hpm
 obtain ⟨P,hP⟩:∃ P,P=(plc L 0).flatMap (Q.pieceD L false):=⟨_,rfl⟩
 obtain ⟨H,hH⟩:∃ H,H=(plc L 0).flatMap (Q.pieceD L true):=⟨_,rfl⟩
 have hU:useL L=(chainP L k 0).flatMap fun p=>(Q.wk L (8 * L.length+39) 0 false p ⟨[(P,H)],false⟩).us:=by
  unfold useL Q.findO
  have e2:(Q.wk L (8 * L.length+40) 1 true 0 ⟨[],false⟩).us=(Q.outs (fun p=>Q.wk L (8 * L.length+39) 0 false p (Q.addB ⟨[],false⟩ ((plc L 0).flatMap (Q.pieceD L false)) ((plc L 0).flatMap (Q.pieceD L true)))) (plc L 0)).us:=rfl
  rw [e2,outs_us,← hP,← hH,hplc]
  rfl
 have hmemb:∀ (b:Bool) (y:Int),y∈(plc L 0).flatMap (Q.pieceD L b)→0≤y∧Ow L (-1) y:=fun b y hy=>by
  rw [hplc] at hy
  obtain ⟨p,hpm,hyp⟩:=List.mem_flatMap.mp hy
  have h1:=(pieceQ_mem hyp).1
  have h2:=(plcD_piece (hdl p hpm)).2 y h1
  have h3:=deed_long (hdl p hpm)
  exact ⟨by omega,ow_top (hdl p hpm) (hno p hpm) h1⟩
 have hE:∀ p,EnvO L [(P,H)] p:=fun p Z hZ=>by
  rw [List.mem_singleton] at hZ
  subst hZ
  refine ⟨fun y hy=>?_,fun y hy=>?_⟩
  ·rw [hP] at hy
   exact ⟨(hmemb false y hy).1,-1,(hmemb false y hy).2,Or.inl rfl⟩
  ·rw [hH] at hy
   exact ⟨(hmemb true y hy).1,-1,(hmemb true y hy).2,Or.inl rfl⟩
 obtain ⟨p,pm,p1,p2,p3⟩:=chI_find (q:=d) k 0 hkI hde.1 (by omega)
 have hfar:∀ p,2 * farN L p+1≤8 * L.length+39:=fun p=>by have:=far_top L p;omega
 obtain ⟨m',E',lp',k1,k2,k3⟩:=loc_do hd hvd _ p (8 * L.length+39) [(P,H)] false (Nat.le_refl _) (hlt p pm).2.2.1 (hfar p) (hE p) p1 p2
 refine ⟨m',E',lp',k1,k2,fun u hu=>?_⟩
 have hud:=own_do hvd hd u.2.1 hu
 rw [← k3 u hu,hU]
 constructor
 ·intro h
  obtain ⟨p',pm',hup⟩:=List.mem_flatMap.mp h
  rcases pair_mem (chainV_pair k _ q1 (by omega)) p pm p' pm' with h3 | h3
  ·rw [h3]
   exact hup
  ·exfalso
   have hve':=(hlt p' pm').2.2.1.ends
   obtain ⟨g1,g2⟩:=uses_own _ p' (8 * L.length+39) [(P,H)] false (Nat.le_refl _) (hlt p' pm').2.2.1 (hfar p') (hE p') u hup
   rcases g2 with g2 | ⟨o,o1,o2,o3⟩
   ·have h0:0≤Q.resQ L u.2.2 [(P,H)] (sgAt L u.1):=by rw [← g2];exact hud.1
    obtain ⟨o,o1,o2⟩:=env_res (hE p') h0
    rw [← g2] at o1
    have:=ow_one o1 hud.2
    rcases o2 with o2 | o2
    ·omega
    ·exact hno p' pm' _ o2
   ·have:=ow_one o1 hud.2
    have hdt:itemE L d≤itemE L p:=by
     by_cases hdx:d=p
     ·rw [hdx]
      exact Int.le_refl _
     ·have hto:isW (sgAt L p) [40]=true:=deed_open (hdl p pm)
      have:=nest _ p d (Nat.le_refl _) hto p3 (by omega) p2 hvd.not41
      omega
    omega
 ·exact fun h=>List.mem_flatMap.mpr ⟨p,pm,h⟩
theorem kept_iff (hp:playB L=true) {d:Int} (hd:doB L d=true):keptB L F d=true↔∃ u∈useL L,u.2.1∈ownP L d∧∃ q,d < q∧Anc L q u.1∧kpB L F q=true:=by
 have hvd:=do_item hp hd
 have hde:=hvd.ends
 obtain ⟨o1,o2⟩:=do_open hd
 obtain ⟨m',E',lp',k1,k2,k3⟩:=loc_top hp hd
 have hfp:=far_pos (L:=L) hde.1 (by omega)
 obtain ⟨m,rfl⟩:∃ k,m'=k+2:=⟨m' - 2,by omega⟩
 obtain ⟨pre,Sub,hS,hpre,hSub⟩:=strc_do (L:=L) (F:=F) (i:=d) (m:=m) (n:=2 * L.length+8) (E:=E') (lp:=lp') hvd o1 o2 k2 (by have:=far_top L d;omega)
 obtain ⟨k,e,q1d,q2,q3⟩:=hvd.deeds o1 o2
 have hse:=sgAt_shut q2
 obtain ⟨q1,hdl⟩:=chain_deeds k _ q1d
 have hplc:=plc_chain q1 hse.1 (by omega) (endB_shut q2)
 have hlt:=chainP_lt k _ q1 hse.1
 obtain ⟨H,hH⟩:∃ H,H=(plc L (d+2)).flatMap (Q.pieceD L true):=⟨_,rfl⟩
 have hSub2:Sub=(plc L (d+2)).map fun x=>⟨x,[(ownP L d,H)],m,2 * L.length+8,lp'⟩:=by rw [hSub,hH];rfl
 have hok:∀ p∈plc L (d+2),SbOk L d ⟨p,[(ownP L d,H)],m,2 * L.length+8,lp'⟩:=fun p hpm=>hS.okE _ (by rw [hSub2];exact List.mem_map.mpr ⟨p,hpm,rfl⟩)
 have hW:∀ u,u∈(Q.wk L (m+2) 0 false d ⟨E',lp'⟩).us↔∃ p∈plc L (d+2),u∈(Q.wk L m 0 false p ⟨E'++[(ownP L d,H)],lp'⟩).us:=fun u=>by
  rw [hS.wkE,hpre,List.nil_append,hSub2]
  constructor
  ·intro h
   obtain ⟨t,ht,h1⟩:=List.mem_flatMap.mp h
   obtain ⟨p,hpm,rfl⟩:=List.mem_map.mp ht
   exact ⟨p,hpm,h1⟩
  ·rintro ⟨p,hpm,h1⟩
   exact List.mem_flatMap.mpr ⟨_,List.mem_map.mpr ⟨p,hpm,rfl⟩,h1⟩
 have hown:=own_do hvd hd
 have hdn:decN L (d+2)=(ownP L d).map (sgAt L):=by
  unfold decN ownP
  rw [hplc,flat_map _ hdl]
 have hany:∀ s,us L F (2 * L.length+10) 1 (d+2) s false=true↔∃ p∈plc L (d+2),us L F (2 * L.length+9) 0 p s false=true:=fun s=>by
  rw [hplc]
  exact any_us (2 * L.length+9) (d+2) s false q1 q2
 unfold keptB
 rw [List.any_eq_true,hdn]
 constructor
 ·rintro ⟨s,hs,h1⟩
  obtain ⟨y,hy,rfl⟩:=List.mem_map.mp hs
  obtain ⟨p,hpm,h2⟩:=(hany _).1 h1
  have hyn:nmB (sgAt L y)=true:=by
   obtain ⟨p0,hp0,hyp⟩:=List.mem_flatMap.mp hy
   rw [hplc] at hp0
   exact (dec_anc (hdl p0 hp0) (pieceQ_mem hyp).1).2.2.1
  have hfy:0≤Q.fstP L (ownP L d) (sgAt L y):=by
   have h3:=fst_in (L:=L) (P:=ownP L d) (s:=sgAt L y) (fun p hp=>(hown p hp).1)
   refine of_decide_eq_true (h3.symm.trans ?_)
   unfold inB
   rw [List.any_eq_true]
   exact ⟨_,List.mem_map.mpr ⟨y,hy,rfl⟩,eqS_iff.2 rfl⟩
  have hres:Q.resQ L false (E'++[(ownP L d,H)]) (sgAt L y)=Q.fstP L (ownP L d) (sgAt L y):=by
   rw [Q.resQ_snoc]
   exact if_pos hfy
  have hk:=hok p hpm
  obtain ⟨u,hu,g1,g2,g3⟩:=(us_uses (F:=F) _ p m (2 * L.length+9) (E'++[(ownP L d,H)]) lp' (sgAt L y) false (Nat.le_refl _) hk.1 hk.2.2.2.2.1 (by have:=far_top L p;omega) (env_step k1 hk) hyn (by rw [hres];exact hfy)).1 h2
  have huo:u.2.1∈ownP L d:=by
   rw [g2,hres]
   exact (fst_is hfy).1
  refine ⟨u,(k3 u huo).2 ((hW u).2 ⟨p,hpm,hu⟩),huo,?_⟩
  rcases g3 with g3 | ⟨q,q1,q2,q3⟩
  ·cases g3
  ·exact ⟨q,by have:=hk.2.1.2.1;simp only at this;omega,q2,q3⟩
 ·rintro ⟨u,hu,huo,q,hq1,hq2,hq3⟩
  obtain ⟨p,hpm,hup⟩:=(hW u).1 ((k3 u huo).1 hu)
  have hk:=hok p hpm
  have hdp:d < p:=hk.2.1.2.1
  obtain ⟨g1,g2⟩:=uses_own _ p m (E'++[(ownP L d,H)]) lp' (Nat.le_refl _) hk.1 hk.2.2.2.2.1 (env_step k1 hk) u hup
  have hud:=hown u.2.1 huo
  have hnotE:∀ (b:Bool) (a:ByteArray),u.2.1=Q.resQ L b E' a→False:=fun b a hh=>by
   obtain ⟨o,o1,o2⟩:=env_res k1 (q:=b) (s:=a) (by rw [← hh];exact hud.1)
   rw [← hh] at o1
   have:=ow_one o1 hud.2
   rcases o2 with o2 | o2
   ·omega
   ·have:=o2.2.1
    omega
  have g2':u.2.1=Q.resQ L u.2.2 (E'++[(ownP L d,H)]) (sgAt L u.1):=by
   rcases g2 with g2 | ⟨o,h1,h2,h3⟩
   ·exact g2
   ·have:=ow_one h1 hud.2
    omega
  have hsec:u.2.2=false:=by
   cases hb:u.2.2
   ·rfl
   ·exfalso
    rw [hb] at g2'
    rcases res_app (L:=L) true (sgAt L u.1) E' [(ownP L d,H)] with ⟨_,h2⟩ | ⟨Z,h1,h2,h3⟩
    ·rw [h2] at g2'
     exact hnotE _ _ g2'
    ·rw [List.mem_singleton] at h1
     subst h1
     have h4:u.2.1∈H:=by
      rw [g2',h3]
      exact (fst_is h2).1
     rw [hH] at h4
     obtain ⟨p1,hp1,hy1⟩:=List.mem_flatMap.mp h4
     obtain ⟨p0,hp0,hy0⟩:=List.mem_flatMap.mp huo
     rw [hplc] at hp1 hp0
     have r1:=(plcD_piece (hdl p1 hp1)).2 _ (pieceQ_mem hy1).1
     have r0:=(plcD_piece (hdl p0 hp0)).2 _ (pieceQ_mem hy0).1
     rw [← deed_item (hdl p1 hp1)] at r1
     rw [← deed_item (hdl p0 hp0)] at r0
     have hb1:=(pieceQ_mem hy1).2
     have hb0:=(pieceQ_mem hy0).2
     rcases pair_mem (chainV_pair k _ q1 hse.1) p0 hp0 p1 hp1 with h5 | h5 | h5
     ·rw [h5,hb1] at hb0
      cases hb0
     ·omega
     ·omega
  rw [hsec] at g2'
  rcases res_app (L:=L) false (sgAt L u.1) E' [(ownP L d,H)] with ⟨_,h2⟩ | ⟨Z,h1,h2,h3⟩
  ·rw [h2] at g2'
   exact absurd (hnotE _ _ g2') id
  ·rw [List.mem_singleton] at h1
   subst h1
   have hf:0≤Q.fstP L (ownP L d) (sgAt L u.1):=h2
   have hfi:=fst_is hf
   refine ⟨sgAt L u.1,List.mem_map.mpr ⟨_,hfi.1,hfi.2⟩,(hany _).2 ⟨p,hpm,?_⟩⟩
   have hnm:nmB (sgAt L u.1)=true:=by
    obtain ⟨p0,hp0,hyp⟩:=List.mem_flatMap.mp hfi.1
    rw [hplc] at hp0
    rw [← hfi.2]
    exact (dec_anc (hdl p0 hp0) (pieceQ_mem hyp).1).2.2.1
   refine (us_uses (F:=F) _ p m (2 * L.length+9) (E'++[(ownP L d,H)]) lp' (sgAt L u.1) false (Nat.le_refl _) hk.1 hk.2.2.2.2.1 (by have:=far_top L p;omega) (env_step k1 hk) hnm (by rw [← g2'];exact hud.1)).2 ⟨u,hup,hsec,g2',Or.inr ⟨q,?_,hq2,hq3⟩⟩
   by_cases hqp:q < p
   ·exfalso
    have:=hk.2.2.2.1 q ⟨hq2.1,hqp,by have:=hq2.2.2;simp only;omega⟩ hq1
    rw [kp_dff this] at hq3
    cases hq3
   ·omega
end
end Go.Proofs.YtdgihicpjonjgaaGreatDoor
