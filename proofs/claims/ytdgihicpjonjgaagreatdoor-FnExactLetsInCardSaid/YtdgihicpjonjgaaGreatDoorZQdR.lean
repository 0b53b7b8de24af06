import Derived.Test.YtdgihicpjonjgaaGreatDoorZQdThree
import Derived.Test.YtdgihicpjonjgaaGreatDoorZLoops
namespace Go.Proofs.YtdgihicpjonjgaaGreatDoor
open Go.RowKit
theorem sel_app (L:List ByteArray) (a b:List (Int × Int × Bool)) (q:Bool):selU L (a++b) q=selU L a q++selU L b q:=by
 unfold selU
 rw [List.filter_append,List.map_append]
structure Rl (L:List ByteArray) (o:Q.Ot) (p:Ot):Prop where
 fr:selU L o.us false=p.fr
 sc:selU L o.us true=p.sc
 bad:o.bad=p.bad
structure Kr (L:List ByteArray) (K:Q.Kn) (k:Kn):Prop where
 nm:k.nm=K.E.flatMap fun Z=>Z.1.map (sgAt L)
 hd:k.hd=K.E.flatMap fun Z=>Z.2.map (sgAt L)
 lp:k.lp=K.lp
 ps:∀ Z∈K.E,(∀ p∈Z.1,0≤p)∧∀ p∈Z.2,0≤p
section
variable {L:List ByteArray}
theorem Rl.add {a b:Q.Ot} {p q:Ot} (h:Rl L a p) (k:Rl L b q):Rl L (a.add b) (p.add q):=by
 refine ⟨?_,?_,?_⟩
 ·show selU L (a.us++b.us) false=p.fr++q.fr
  rw [sel_app,h.fr,k.fr]
 ·show selU L (a.us++b.us) true=p.sc++q.sc
  rw [sel_app,h.sc,k.sc]
 ·show (a.bad || b.bad)=(p.bad || q.bad)
  rw [h.bad,k.bad]
theorem rl_bad {b b':Bool} (h:b=b'):Rl L (Q.badO b) ⟨[],[],b'⟩:=⟨rfl,rfl,h⟩
theorem rl_none:Rl L Q.Ot.none Ot.none:=⟨rfl,rfl,rfl⟩
theorem rl_ite {c:Prop} [Decidable c] {a b:Q.Ot} {p q:Ot} (h:c→Rl L a p) (k:¬ c→Rl L b q):Rl L (if c then a else b) (if c then p else q):=by
 split
 ·exact h ‹_›
 ·exact k ‹_›
theorem rl_outs {f:Int→Q.Ot} {g:Int→Ot}:∀ ps:List Int,(∀ p∈ps,Rl L (f p) (g p))→Rl L (Q.outs f ps) (outs g ps)
 | [],_=>rl_none
 | p :: ps,h=>(h p (List.mem_cons_self ..)).add (rl_outs ps fun x hx=>h x (List.mem_cons_of_mem _ hx))
theorem rl_blk {f:Int→Q.Ot} {g:Int→Ot}:∀ (v:Bool) (ps:List Int),(∀ p∈ps,Rl L (f p) (g p))→Rl L ((Q.badO (Q.varB L v ps)).add (Q.outs f ps)) (blk L g v ps)
 | _,[],_=>⟨rfl,rfl,rfl⟩
 | v,p :: ps,h=>by
  have h1:=h p (List.mem_cons_self ..)
  have h2:=rl_blk false ps fun x hx=>h x (List.mem_cons_of_mem _ hx)
  refine ⟨?_,?_,?_⟩
  ·show selU L ((f p).us++(Q.outs f ps).us) false=(g p).fr++(blk L g false ps).fr
   rw [sel_app,h1.fr,← h2.fr]
   rfl
  ·show selU L ((f p).us++(Q.outs f ps).us) true=(g p).sc++(blk L g false ps).sc
   rw [sel_app,h1.sc,← h2.sc]
   rfl
  ·show (((isW (sgAt L (p+1)) [118,97,114,115] && !v) || Q.varB L false ps) || ((f p).bad || (Q.outs f ps).bad))=((isW (sgAt L (p+1)) [118,97,114,115] && !v) || ((g p).bad || (blk L g false ps).bad))
   rw [← h2.bad,h1.bad]
   show _=(_ || (_ || (Q.varB L false ps || (Q.outs f ps).bad)))
   cases (isW (sgAt L (p+1)) [118,97,114,115] && !v) <;> cases Q.varB L false ps <;> cases (g p).bad <;> cases (Q.outs f ps).bad <;> rfl
theorem Kr.block {K:Q.Kn} {k:Kn} (h:Kr L K k) {X Y:List Int} {x y:List ByteArray} (hx:X.map (sgAt L)=x∧∀ p∈X,0≤p) (hy:Y.map (sgAt L)=y∧∀ p∈Y,0≤p):Kr L (Q.addB K X Y) (addH (addN k x) y):=by
 refine ⟨?_,?_,h.lp,fun Z hZ=>?_⟩
 ·show k.nm++x=(K.E++[(X,Y)]).flatMap _
  rw [List.flatMap_append,h.nm,← hx.1]
  simp
 ·show k.hd++y=(K.E++[(X,Y)]).flatMap _
  rw [List.flatMap_append,h.hd,← hy.1]
  simp
 ·rcases List.mem_append.mp hZ with hZ | hZ
  ·exact h.ps Z hZ
  ·rw [List.mem_singleton] at hZ
   subst hZ
   exact ⟨hx.2,hy.2⟩
theorem Kr.names {K:Q.Kn} {k:Kn} (h:Kr L K k) {X:List Int} {x:List ByteArray} (hx:X.map (sgAt L)=x∧∀ p∈X,0≤p):Kr L (Q.addN K X) (addN k x):=by
 have h1:=h.block hx (Y:=[]) (y:=[]) ⟨rfl,fun p hp=>by cases hp⟩
 exact ⟨h1.nm,(List.append_nil _).symm.trans h1.hd,h1.lp,h1.ps⟩
theorem Kr.loop {K:Q.Kn} {k:Kn} (h:Kr L K k) (b:Bool):Kr L (Q.inLoop K b) (inLoop k b):=⟨h.nm,h.hd,rfl,h.ps⟩
theorem res_from (q:Bool) (s:ByteArray):∀ (E:Q.Blks) (m:Int),(∀ Z∈E,(∀ p∈Z.1,0≤p)∧∀ p∈Z.2,0≤p)→((E.foldl (fun m Z=>if 0≤Q.fstP L (Q.sideL q Z.1 Z.2) s then Q.fstP L (Q.sideL q Z.1 Z.2) s else m) m == -1)=(m == -1 && !inB (E.flatMap fun Z=>(Q.sideL q Z.1 Z.2).map (sgAt L)) s))
 | [],m,_=>by simp [inB]
 | Z :: E,m,h=>by
  rw [List.foldl_cons,res_from q s E _ (fun X hX=>h X (List.mem_cons_of_mem _ hX)),List.flatMap_cons,inB_append,Q.fst_in (Q.side_pos (h Z (List.mem_cons_self ..)) q) s]
  by_cases h0:0≤Q.fstP L (Q.sideL q Z.1 Z.2) s
  ·have h1:(Q.fstP L (Q.sideL q Z.1 Z.2) s == -1)=false:=by simp;omega
   rw [if_pos h0,decide_eq_true h0,h1]
   simp
  ·rw [if_neg h0,decide_eq_false h0,Bool.false_or]
theorem rl_use {K:Q.Kn} {k:Kn} (h:Kr L K k) (i:Int):Rl L (Q.useO L K i) (useO k (sgAt L i)):=by
 have hr:(Q.resQ L false K.E (sgAt L i) == -1)=(true && !inB k.nm (sgAt L i)):=h.nm▸res_from false (sgAt L i) K.E (-1) h.ps
 unfold useO Q.useO Q.usO
 cases hb:inB k.nm (sgAt L i) <;> rw [hb] at hr
 ·exact ⟨by simp [selU,hr],by simp [selU],rfl⟩
 ·exact ⟨by simp [selU,hr,Ot.none],by simp [selU,Ot.none],rfl⟩
theorem rl_hide {K:Q.Kn} {k:Kn} (h:Kr L K k) (i:Int):Rl L (Q.hideO L K i) (hideO k (sgAt L i)):=by
 have hr:(Q.resQ L true K.E (sgAt L i) == -1)=(true && !inB k.hd (sgAt L i)):=h.hd▸res_from true (sgAt L i) K.E (-1) h.ps
 unfold hideO Q.hideO Q.usO
 cases hb:inB k.hd (sgAt L i) <;> rw [hb] at hr
 ·exact ⟨by simp [selU],by simp [selU,hr],rfl⟩
 ·exact ⟨by simp [selU,Ot.none],by simp [selU,hr,Ot.none],rfl⟩
theorem piece_rl (hp:playB L=true) (b:Bool) (p:Int) (h0:0≤p):(Q.pieceD L b p).map (sgAt L)=pieceD L b p∧∀ y∈Q.pieceD L b p,0≤y:=by
 cases hd:dvB (sgAt L (p+1))
 ·have hw:∀ c∈dvW,isW (sgAt L (p+1)) c=false:=fun c hc=>by simpa using List.any_eq_false.1 hd c hc
  unfold Q.pieceD plcD pieceD
  rw [hw [108,101,116] (by decide),hw [116,97,107,101] (by decide),hw [118,97,114,115] (by decide),hw [104,105,100,100,101,110] (by decide)]
  simp
 ·obtain ⟨h1,h2⟩:=plcD_piece (play_dv hp hd)
  unfold Q.pieceD
  by_cases hb:hidB L p=b
  ·rw [if_pos hb,h1,hb]
   exact ⟨rfl,fun y hy=>by have:=h2 y hy;omega⟩
  ·rw [if_neg hb]
   refine ⟨?_,fun y hy=>by cases hy⟩
   cases b
   ·exact (piece_was (by simpa using hb)).symm
   ·exact (piece_not (by simpa using hb)).symm
theorem flat_rl (hp:playB L=true) (b:Bool):∀ ps:List Int,(∀ p∈ps,0≤p)→(ps.flatMap (Q.pieceD L b)).map (sgAt L)=ps.flatMap (pieceD L b)∧∀ y∈ps.flatMap (Q.pieceD L b),0≤y
 | [],_=>⟨rfl,fun y hy=>by cases hy⟩
 | p :: ps,h=>by
  obtain ⟨a1,a2⟩:=piece_rl hp b p (h p (List.mem_cons_self ..))
  obtain ⟨b1,b2⟩:=flat_rl hp b ps fun x hx=>h x (List.mem_cons_of_mem _ hx)
  rw [List.flatMap_cons,List.flatMap_cons,List.map_append,a1,b1]
  refine ⟨rfl,fun y hy=>?_⟩
  rcases List.mem_append.mp hy with hy | hy
  ·exact a2 y hy
  ·exact b2 y hy
theorem plcs_pos:∀ f i,∀ p∈plcs L f i,0≤p
 | 0,_,p,hp=>by cases hp
 | f+1,i,p,hp=>by
  unfold plcs at hp
  split at hp
  ·rename_i h
   rcases List.mem_cons.mp hp with rfl | hp
   ·exact h.1
   ·exact plcs_pos f _ p hp
  ·cases hp
theorem par_rl (ps:List Int) (h:∀ p∈ps,0≤p):(ps.map (Q.parN L)).map (sgAt L)=ps.map (parN L)∧∀ y∈ps.map (Q.parN L),0≤y:=by
 refine ⟨?_,fun y hy=>?_⟩
 ·rw [List.map_map]
  refine List.map_congr_left fun p _=>?_
  show sgAt L (Q.parN L p)=parN L p
  unfold Q.parN parN
  split <;> rfl
 ·obtain ⟨p,hp,rfl⟩:=List.mem_map.mp hy
  have:=h p hp
  unfold Q.parN
  split <;> omega
theorem wk_rl (hp:playB L=true):∀ n m v i K k,Kr L K k→Rl L (Q.wk L n m v i K) (wk L n m v i k)
 | 0,_,_,_,_,_,_=>rl_none
 | n+1,m,v,i,K,k,h=>by
  have IH:=wk_rl hp n
  have hpl:∀ j,∀ p∈plc L j,0≤p:=fun j=>plcs_pos _ j
  refine rl_ite (fun _=>?_) (fun _=>?_)
  ·unfold Q.itemO itemO
   refine rl_ite (fun _=>rl_ite (fun _=>rl_use h i) fun _=>rl_none) fun ho=>?_
   obtain ⟨h0,_⟩:=sgAt_open (L:=L) (i:=i) (by simpa using ho)
   refine rl_ite (fun _=>?_) fun _=>?_
   ·have hP:=par_rl (L:=L) (plc L (i+3)) (hpl _)
    have hK:=(h.names hP).loop false
    unfold Q.fnO fnO
    exact (rl_bad (by unfold Q.twP;rw [hP.1])).add ((rl_outs _ fun p _=>rl_ite (fun _=>IH _ _ _ _ _ hK) fun _=>rl_none).add (IH _ _ _ _ _ hK))
   refine rl_ite (fun _=>IH _ _ _ _ _ h) fun _=>?_
   refine rl_ite (fun _=>IH _ _ _ _ _ h) fun _=>?_
   refine rl_ite (fun _=>(rl_use h _).add (IH _ _ _ _ _ h)) fun _=>?_
   refine rl_ite (fun _=>IH _ _ _ _ _ h) fun _=>?_
   refine rl_ite (fun _=>(rl_hide h _).add (rl_outs _ fun p _=>IH _ _ _ _ _ h)) fun _=>?_
   refine rl_ite (fun _=>rl_none) fun _=>?_
   refine rl_ite (fun _=>rl_bad (by rw [h.lp])) fun _=>?_
   refine rl_ite (fun _=>(IH _ _ _ _ _ h).add (IH _ _ _ _ _ (h.loop true))) fun _=>?_
   refine rl_ite (fun _=>(IH _ _ _ _ _ h).add ((IH _ _ _ _ _ h).add (IH _ _ _ _ _ ((h.loop true).names ⟨rfl,fun p hp=>?_⟩)))) fun _=>?_
   ·rw [List.mem_singleton] at hp
    omega
   ·exact rl_outs _ fun p _=>IH _ _ _ _ _ h
  ·have h1:=flat_rl hp false (plc L i) (hpl i)
   have h2:=flat_rl hp true (plc L i) (hpl i)
   unfold Q.blockO blockO
   rw [show ∀ (a b:Bool) (X:Q.Ot),(Q.badO (a || b)).add X=(Q.badO a).add ((Q.badO b).add X) from fun a b X=>by simp [Q.badO,Q.Ot.add,Bool.or_assoc]]
   exact (rl_bad (by unfold Q.twP;rw [h1.1,h2.1])).add (rl_blk v _ fun p _=>IH _ _ _ _ _ (h.block h1 h2))
theorem find_rl (hp:playB L=true):Rl L (Q.findO L) (findO L):=wk_rl hp _ _ _ _ _ _ ⟨rfl,rfl,rfl,fun Z hZ=>by cases hZ⟩
theorem any_sel:∀ us:List (Int × Int × Bool),(us.any fun u=>u.2.1 == -1)=(!(selU L us false).isEmpty || !(selU L us true).isEmpty)
 | []=>rfl
 | (a,b,c) :: us=>by
  rw [List.any_cons,any_sel us,show (a,b,c) :: us=[(a,b,c)]++us from rfl,sel_app,sel_app]
  cases h:(b == -1) <;> cases c <;> simp [selU,h]
theorem said_scopedQ {x:RdX} {U:Nat} (hp:playB L=true) (h:Q.SaidR L x (Q.findO L) U):(!x.fu && (!x.ft && (!x.fo && !x.fv)))=((findO L).fr.isEmpty && ((findO L).sc.isEmpty && !(findO L).bad)):=by
 have hr:=find_rl hp
 have hu:=h.unk
 have hb:=h.bad
 rw [any_sel,hr.fr,hr.sc] at hu
 rw [hr.bad] at hb
 rw [hu,← hb]
 cases (findO L).fr.isEmpty <;> cases (findO L).sc.isEmpty <;> cases x.ft <;> cases x.fo <;> cases x.fv <;> rfl
end
set_option maxRecDepth 100000 in
set_option maxHeartbeats 4000000 in
theorem scopedQ_any (a:Option Addr) (cap:Nat) (L:List ByteArray) (w:World) (ht:Tab w) (h:ArgT w a L) (hL:L.length≤1048576) :
  Calls Tryz.prog 16 #[.slice a L.length cap] w fun e w'=>e=.returned (.bool (playB L && ((findO L).fr.isEmpty && ((findO L).sc.isEmpty && !(findO L).bad))))∧Below w.heap.size w w':=by
 cases hp:playB L
 ·have HP:Hid (playB L=false):=hp
  clear hp
  go_enter Tryz.func16,Tryz.ntmps16
  go_wp2_with fail
  refine (playOkI_any a cap L _ ht h hL).mono ?_
  rintro e w1 ⟨rfl,hb1⟩
  rw [HP.out]
  go_wp2
  go_ret
  exact ⟨rfl,hb1⟩
 ·have HP:Hid (playB L=true):=hp
  have HRP:Hid (∀ W,Tab W→ArgT W a L→Calls Tryz.prog 28 #[.slice a L.length cap] W fun r w'=>∃ (x:RdX) (U:Nat),r=.returned (.agg #[.slice a L.length cap,x.vb,.int .i64 0,x.vu,.bool x.fu,.bool x.ft,.bool x.fo,.bool x.fv])∧w'.ownsRow W.heap.size 108 3 x.vu x.us.length (flatU x.us)∧Q.SaidR L x (Q.findO L) U∧U≤L.length∧Below W.heap.size W w'):=fun W h1 h2=>Q.readPlay_any a cap L W h1 h2 hp
  clear hp
  go_enter Tryz.func16,Tryz.ntmps16
  go_wp2_with fail
  refine (playOkI_any a cap L _ ht h hL).mono ?_
  rintro e w1 ⟨rfl,hb1⟩
  rw [HP.out]
  go_wp2_with fail
  refine (HRP.out _ (tab_call ht hb1) (h.call hb1)).mono ?_
  rintro r w2 ⟨x,U,rfl,_,hS,_,hb2⟩
  have HB:Hid ((true && ((findO L).fr.isEmpty && ((findO L).sc.isEmpty && !(findO L).bad)))=(!x.fu && (!x.ft && (!x.fo && !x.fv)))):=(said_scopedQ HP.out hS).symm
  have hfd:∀ W,(Instr.field 45 (.agg #[.slice a L.length cap,x.vb,.int .i64 0,x.vu,.bool x.fu,.bool x.ft,.bool x.fo,.bool x.fv]) 4).run Tryz.prog W=.ok (.agg #[.bool x.fu,.bool x.ft,.bool x.fo,.bool x.fv]) W:=fun _=>by kernel_rfl
  have hB:=bstep hb1 hb2
  clear hS HRP
  generalize x.fu=b1 at hfd HB ⊢
  generalize x.ft=b2 at hfd HB ⊢
  generalize x.fo=b3 at hfd HB ⊢
  generalize x.fv=b4 at hfd HB ⊢
  cases b1 <;> cases b2 <;> cases b3 <;> cases b4
  all_goals go_wp2
  all_goals go_ret
  all_goals exact ⟨by rw [HB.out];rfl,hB⟩
end Go.Proofs.YtdgihicpjonjgaaGreatDoor
