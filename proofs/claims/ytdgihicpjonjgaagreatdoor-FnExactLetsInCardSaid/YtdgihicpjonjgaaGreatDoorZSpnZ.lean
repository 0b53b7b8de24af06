import Derived.Test.YtdgihicpjonjgaaGreatDoorZLoops
import Derived.Test.YtdgihicpjonjgaaGreatDoorZLoopW
import Derived.Test.YtdgihicpjonjgaaGreatDoorZDefs
import Derived.Deep.RegionHeld3
namespace Go.Proofs.YtdgihicpjonjgaaGreatDoor
open Go.RowKit
set_option maxHeartbeats 1000000 in
theorem index_any (b off c:Nat) (H:List ByteArray) (s:ByteArray) (T:Bool) (w:World) (HC:Hid (∀ j (h:j < H.length),w.cell? ⟨b,off+j,none⟩=some (.string H[j]))) (hl:H.length≤100) (HT:Hid ((H.any fun x=>eqS s x)=T)) :
  Calls Tryz.prog 92 #[.slice (some ⟨b,off,none⟩) H.length c,.string s] w fun e w'=>∃ x:Int,e=.returned (.int .i64 x)∧(0≤x↔T=true)∧w'=w:=by
 go_enter Tryz.func92,Tryz.ntmps92
 go_wp2
 go_loop [5,8] (fun _ i=>∃ k:Nat,k≤H.length∧i=.int .i64 (k:Int)∧Hid ((H.drop k).any (fun x=>eqS s x)=T)) (fun _ i=>H.length - (intOf i).toNat)
 case atStart=>exact ⟨0,Nat.zero_le _,rfl,HT.out⟩
 case round =>
  obtain ⟨k,hk,rfl,HA⟩:=hrel
  by_cases hlt:k < H.length
  ·have hcell:=HC.out k hlt
   have HB:Hid ((eqS s H[k] || (H.drop (k+1)).any fun x=>eqS s x)=T):=(by rw [← HA.out,List.drop_eq_getElem_cons hlt];rfl:(eqS s H[k] || (H.drop (k+1)).any fun x=>eqS s x)=T)
   clear HA
   generalize H[k]=t at hcell HB
   cases hq:(s.toList == t.toList)
   ·have HN:Hid ((H.drop (k+1)).any (fun x=>eqS s x)=T):=(by rw [← HB.out];show _=((s.toList == t.toList) || _);rw [hq];rfl:(H.drop (k+1)).any (fun x=>eqS s x)=T)
    clear HB
    go_wp2
    exact ⟨⟨k+1,by omega,by go_num,HN.out⟩,by simp [intOf];omega⟩
   ·have HN:Hid (T=true):=(by rw [← HB.out];show ((s.toList == t.toList) || _)=true;rw [hq];rfl:T=true)
    clear HB
    go_wp2
    go_ret
    exact ⟨_,rfl,⟨fun _=>HN.out,fun _=>by omega⟩,rfl⟩
  ·have HN:Hid (T=false):=(by rw [← HA.out,List.drop_eq_nil_of_le (by omega)];rfl:T=false)
   clear HA
   go_wp2
   go_ret
   exact ⟨_,rfl,⟨fun h=>absurd h (by decide),fun h=>by rw [HN.out] at h;cases h⟩,rfl⟩
set_option maxHeartbeats 1000000 in
theorem contains_any (b off c:Nat) (H:List ByteArray) (s:ByteArray) (w:World) (hc:∀ j (h:j < H.length),w.cell? ⟨b,off+j,none⟩=some (.string H[j])) (hl:H.length≤100) :
  Calls Tryz.prog 44 #[.slice (some ⟨b,off,none⟩) H.length c,.string s] w fun e w'=>e=.returned (.bool (H.any fun x=>eqS s x))∧w'=w:=by
 have HC:Hid (∀ j (h:j < H.length),w.cell? ⟨b,off+j,none⟩=some (.string H[j])):=hc
 clear hc
 obtain ⟨T,hT⟩:∃ T,(H.any fun x=>eqS s x)=T:=⟨_,rfl⟩
 have HT:Hid ((H.any fun x=>eqS s x)=T):=hT
 rw [hT]
 clear hT
 go_enter Tryz.func44,Tryz.ntmps44
 go_wp2_with fail
 refine (index_any b off c H s T _ HC hl HT).mono ?_
 rintro e w1 ⟨x,rfl,hx,rfl⟩
 cases T
 ·have hx0:¬ 0≤x:=fun hh=>by
   have:=hx.mp hh
   cases this
  clear hx
  go_wp2
  go_ret
  exact ⟨by simp [hx0],rfl⟩
 ·have hx0:0≤x:=hx.mpr rfl
  clear hx
  go_wp2
  go_ret
  exact ⟨by simp,rfl⟩
theorem own_call {w w':World} {B:Nat} {e:TypeId} {sz n:Nat} {v:Value} {xs:List Value} (h:w.ownsRow B e sz v n xs) (hb:Below w.heap.size w w'):w'.ownsRow B e sz v n xs:=own_kept h (fun g hg=>hb.block g (World.ownsRow.lt h g hg).2)
theorem rows_ne {W:World} {B n sz B' n' sz':Nat} {e e':TypeId} {v v':Value} {xs xs':List Value} (h:W.ownsRow B e sz v n xs) (h':W.ownsRow B' e' sz' v' n' xs') (hne:e≠e') {g:Nat} (hg:v.ownBlock=some g) (hg':v'.ownBlock=some g):False:=by
 rcases h.2 with ⟨rfl,_⟩ | ⟨g1,cap,cur,rfl,_,hgb,_⟩
 ·simp [Value.ownBlock] at hg
 rcases h'.2 with ⟨rfl,_⟩ | ⟨g2,cap',cur',rfl,_,hgb',_⟩
 ·simp [Value.ownBlock] at hg'
 simp [Value.ownBlock] at hg hg'
 subst hg hg'
 have:=Option.some.inj (hgb.symm.trans hgb')
 injection this with _ e2
 exact hne e2
def SpnO (w:World) (B:Nat) (v:Value) (S:List (Int × Int)):Prop:=w.ownsRow B 51 2 v S.length (flatS S)
def SpnA (w:World) (a:Option Addr) (S:List (Int × Int)):Prop:=∀ k (h:k < S.length),∃ g,a=some ⟨g,0,none⟩∧g < w.heap.size∧w.cell? ⟨g,k * 2,none⟩=some (.int .i64 S[k].1)∧w.cell? ⟨g,k * 2+1,none⟩=some (.int .i64 S[k].2)
theorem SpnA.call {w w':World} {a:Option Addr} {S:List (Int × Int)} (h:SpnA w a S) (hb:Below w.heap.size w w'):SpnA w' a S:=fun k hk=>by
 obtain ⟨g,ha,hg,h1,h2⟩:=h k hk
 exact ⟨g,ha,Nat.lt_of_lt_of_le hg hb.size,(hb.cell (p:=⟨g,k * 2,none⟩) hg).trans h1,(hb.cell (p:=⟨g,k * 2+1,none⟩) hg).trans h2⟩
theorem SpnO.arg {w:World} {B:Nat} {v:Value} {S:List (Int × Int)} (h:SpnO w B v S):∃ a c,v=.slice a S.length c∧SpnA w a S:=by
 obtain ⟨av,cv,hv,hcv,_,hn,hs⟩:=own_shape h
 refine ⟨av,cv,hv,fun k hk=>?_⟩
 cases av with
 | none=>exact absurd (hn rfl) (by omega)
 | some p =>
  obtain ⟨g,rfl,_⟩:=hs p rfl
  obtain ⟨f1,f2⟩:=flatS_at S k hk
  have hadd:∀ j,(⟨g,0,none⟩:Addr).add j=⟨g,j,none⟩:=fun j=>by unfold Addr.add;split <;> simp_all
  have hob:v.ownBlock=some g:=by rw [hv];simp [Value.ownBlock]
  have d1:=World.ownsRow.cells h hob _ _ f1
  have d2:=World.ownsRow.cells h hob _ _ f2
  rw [hadd] at d1 d2
  exact ⟨g,rfl,(World.ownsRow.lt h g hob).2,d1,d2⟩
theorem infoSp:(Tryz.prog.info? 51).map (fun i=>(i.zero,i.size,i.bytes))=some (some (.agg #[.int .i64 0,.int .i64 0]),2,16):=by kernel_rfl
theorem spnO_new (w:World):SpnO (w.alloc (.cells #[] 51)) w.heap.size (.slice (some ⟨w.heap.size,0,none⟩) 0 0) [] :=
 World.ownsRow_made w #[] 0 (Nat.le_refl _) (Nat.zero_le _) rfl
theorem two_new (w:World) (u v:Value) (t:TypeId):∀ j x,[u,v][j]?=some x→(w.alloc (.cells #[u,v] t)).cell? ((⟨w.heap.size,0,none⟩:Addr).add j)=some x:=fun j x hj=>by
 have hadd:∀ j,(⟨w.heap.size,0,none⟩:Addr).add j=⟨w.heap.size,j,none⟩:=fun j=>by unfold Addr.add;split <;> simp_all
 rw [hadd]
 match j,hj with
 | 0,hj=>simp at hj;subst hj;simp [go_sem]
 | 1,hj=>simp at hj;subst hj;simp [go_sem]
set_option maxRecDepth 100000 in
set_option maxHeartbeats 4000000 in
theorem spansOf_any (a:Option Addr) (cap:Nat) (L:List ByteArray) (b off c:Nat) (H:List ByteArray) (w:World) (h:ArgT w a L) (hp:playB L=true) (hs:signsB L=true) (hc:∀ j (h:j < H.length),w.cell? ⟨b,off+j,none⟩=some (.string H[j])) (hb:b < w.heap.size) (hl:H.length≤100) :
  Calls Tryz.prog 30 #[.slice a L.length cap,.slice (some ⟨b,off,none⟩) H.length c] w fun e w'=>∃ v,e=.returned v∧SpnO w' w.heap.size v (spn L H L.length)∧Below w.heap.size w w':=by
 have hL:=play_len hp
 obtain ⟨i0,hi,hz0,hz1,hz2⟩:=info_parts infoSp
 go_enter Tryz.func30,Tryz.ntmps30
 go_wp2
 go_loopw [5,6,7,11] (fun v5 _ _ v11 wr=>∃ (k:Nat),v11=.int .i64 (k:Int)∧k≤L.length∧SpnO wr w.heap.size v5 (spn L H k)∧Below w.heap.size w wr) (fun _ _ _ v11 _=>L.length - (intOf v11).toNat)
 case atStart=>exact ⟨0,rfl,Nat.zero_le _,spnO_new w,balloc (Below.refl _ _) _⟩
 case round =>
  obtain ⟨k,rfl,hk,hO,hB⟩:=hrel
  obtain ⟨av,cv,rfl,_⟩:=own_shape hO
  by_cases hlt:k < L.length
  ·have hA:=h.call hB
   obtain ⟨sb,o0,rfl,s0,hsb⟩:=hA.sg (i:=k) hlt
   have HS:Hid (spn L H (k+1)=spn L H k++(if spnB L H (k:Int) then [((k:Int),itemE L (k:Int))] else [])):=(rfl:spn L H (k+1)=spn L H k++(if spnB L H (k:Int) then [((k:Int),itemE L (k:Int))] else []))
   cases ho:isW (sgAt L (k:Int)) [40]
   ·have b40:((sgAt L (k:Int)).toList == [40])=false:=ho
    have HE:Hid (spn L H (k+1)=spn L H k):=(by rw [HS.out];unfold spnB;rw [ho];simp:spn L H (k+1)=spn L H k)
    have hO2:SpnO wr w.heap.size (.slice av (spn L H k).length cv) (spn L H (k+1)):=by rw [HE.out];exact hO
    clear HS HE hO
    generalize sgAt L (k:Int)=y0 at s0 b40
    generalize (spn L H k).length=m at hO2 ⊢
    go_wp2
    go_roundw
    case rel=>exact ⟨k+1,by go_num,by omega,hO2,hB⟩
    case measure=>simp [intOf];omega
   ·have b40:((sgAt L (k:Int)).toList == [40])=true:=ho
    have hk1:k+1 < L.length:=by
     have:=(play_gk hp (k:Int) (by omega) (by omega) ho).1
     omega
    obtain ⟨sb1,o1,ha1,s1,_⟩:=hA.sg (i:=k+1) hk1
    injection ha1 with ha1
    injection ha1 with e1 f1 _
    subst e1
    subst f1
    rw [show ((k+1:Nat):Int)=(k:Int)+1 by omega] at s1
    have HC:Hid (Calls Tryz.prog 44 #[.slice (some ⟨b,off,none⟩) H.length c,.string (sgAt L ((k:Int)+1))] wr fun e w'=>e=.returned (.bool (H.any fun x=>eqS (sgAt L ((k:Int)+1)) x))∧w'=wr):=contains_any b off c H _ wr (fun j hj=>(hB.cell (p:=⟨b,off+j,none⟩) hb).trans (hc j hj)) hl
    have HQ:Hid (spnB L H (k:Int)=(H.any fun x=>eqS (sgAt L ((k:Int)+1)) x)):=(by unfold spnB;rw [ho,Bool.true_and]:spnB L H (k:Int)=(H.any fun x=>eqS (sgAt L ((k:Int)+1)) x))
    rw [HQ.out] at HS
    clear HQ
    generalize (H.any fun x=>eqS (sgAt L ((k:Int)+1)) x)=o at HC HS
    generalize sgAt L ((k:Int)+1)=y1 at s1 HC
    generalize sgAt L (k:Int)=y0 at s0 b40
    cases o
    ·have HE:Hid (spn L H (k+1)=spn L H k):=(by rw [HS.out];simp:spn L H (k+1)=spn L H k)
     have hO2:SpnO wr w.heap.size (.slice av (spn L H k).length cv) (spn L H (k+1)):=by rw [HE.out];exact hO
     clear HS HE hO
     generalize (spn L H k).length=m at hO2 ⊢
     go_wp2_with fail
     refine HC.out.mono ?_
     rintro r w1 ⟨rfl,rfl⟩
     go_wp2
     go_roundw
     case rel=>exact ⟨k+1,by go_num,by omega,hO2,hB⟩
     case measure=>simp [intOf];omega
    ·have HE:Hid (spn L H (k+1)=spn L H k++[((k:Int),itemE L (k:Int))]):=HS.out
     have HI:Hid (Calls Tryz.prog 45 #[.slice (some ⟨sb,o0,none⟩) L.length cap,.int .i64 (k:Int)] wr fun e w'=>e=.returned (.int .i64 (itemE L (k:Int)))∧Below wr.heap.size wr w'):=itemEndI_any _ cap L (k:Int) wr hA (by omega) hs
     have hsl:=spn_len L H k
     generalize itemE L (k:Int)=z at HE HI
     clear HS
     go_wp2_with fail
     refine HC.out.mono ?_
     rintro r w1 ⟨rfl,rfl⟩
     go_wp2_with fail
     refine HI.out.mono ?_
     rintro r w2 ⟨rfl,hb2⟩
     have hB2:=bstep hB hb2
     have hO2:w2.ownsRow w.heap.size 51 2 (.slice av (spn L H k).length cv) (spn L H k).length (flatS (spn L H k)):=own_kept hO (fun g hg=>hb2.block g (World.ownsRow.lt hO g hg).2)
     have hcc1:=two_new w2 (.int .i64 (k:Int)) (.int .i64 z) 51
     have hcc2:∀ u∈[Value.int .i64 (k:Int),.int .i64 z],u.oneCell'=true:=fun u hu=>by simp at hu;rcases hu with rfl | rfl <;> rfl
     have hcc3:(spn L H k).length+1≤maxLen:=by unfold maxLen;omega
     have hcc4:((spn L H k).length+1) * 16≤140737488355328:=by omega
     have hsz:=hB2.size
     have hcc5:w.heap.size≤(w2.alloc (.cells #[.int .i64 (k:Int),.int .i64 z] 51)).heap.size:=by simp;omega
     have HE2:Hid (∀ v W,W.ownsRow w.heap.size 51 2 v ((spn L H k).length+1) (flatS (spn L H k)++[.int .i64 (k:Int),.int .i64 z])→SpnO W w.heap.size v (spn L H (k+1))):=fun v W hW=>by
      unfold SpnO
      rw [HE.out,flatS_snoc,List.length_append]
      exact hW
     clear hO HE
     generalize (spn L H k).length=m at *
     generalize flatS (spn L H k)=fs at *
     go_wp2_with (at_builtin;refine wpList_append_own _ rfl _ _ 47 rfl w.heap.size 51 i0 (.agg #[.int .i64 0,.int .i64 0]) 2 16 Tryz.underlying47 hi hz0 hz1 hz2 rfl (by decide) _ _ _ rfl (World.ownsRow.alloc hO2 _) ⟨w2.heap.size,0,none⟩ 1 1 [.int .i64 (k:Int),.int .i64 z] rfl rfl hcc1 hcc2 hcc3 hcc4 hcc5 ?_)
     intro v' w3 hown hgrow _
     have hO3:=HE2.out v' w3 hown
     have hB3:Below w.heap.size w w3:=(hB2.alloc hB2.size (.cells #[.int .i64 (k:Int),.int .i64 z] 51)).grown hgrow (by simp;omega) (fun g hg=>(World.ownsRow.lt hO2 g hg).1)
     obtain ⟨av',cv',rfl,_⟩:=own_shape hown
     clear hown hgrow hcc1 hcc2 hcc3 hcc4 hcc5 hO2
     go_wp2
     go_roundw
     case rel=>exact ⟨k+1,by go_num,by omega,hO3,hB3⟩
     case measure=>simp [intOf];omega
  ·have e:k=L.length:=by omega
   subst e
   generalize (spn L H L.length).length=m at hO ⊢
   go_wp2
   go_ret
   exact ⟨_,rfl,hO,hB⟩
end Go.Proofs.YtdgihicpjonjgaaGreatDoor
namespace Go.Proofs.YtdgihicpjonjgaaGreatDoor
open Go.RowKit
set_option maxHeartbeats 1000000 in
theorem isAround_any (u v p:Int) (w:World) :
  Calls Tryz.prog 98 #[.agg #[.int .i64 u,.int .i64 v],.int .i64 p] w fun e w'=>e=.returned (.bool (arnB (u,v) p))∧Below w.heap.size w w':=by
 have hB:=balloc (Below.refl w.heap.size w) (.cells #[.int .i64 u,.int .i64 v] 51)
 unfold arnB
 by_cases h1:u < p
 ·by_cases h2:p < v
  ·rw [decide_eq_true h1,decide_eq_true h2]
   go_enter Tryz.func98,Tryz.ntmps98
   go_wp2
   go_ret
   exact ⟨by first | rfl | simp | simp [h2],hB⟩
  ·rw [decide_eq_true h1,decide_eq_false h2]
   go_enter Tryz.func98,Tryz.ntmps98
   go_wp2
   go_ret
   exact ⟨by first | rfl | (simp;omega),hB⟩
 ·rw [decide_eq_false h1]
  go_enter Tryz.func98,Tryz.ntmps98
  go_wp2
  go_ret
  exact ⟨by first | rfl | (simp;omega),hB⟩
set_option maxRecDepth 100000 in
set_option maxHeartbeats 4000000 in
theorem innermost_any (a:Option Addr) (c:Nat) (S:List (Int × Int)) (p:Int) (w:World) (h:SpnA w a S) (hl:S.length≤5000) :
  Calls Tryz.prog 49 #[.slice a S.length c,.int .i64 p] w fun e w'=>e=.returned (.int .i64 (inm p S (-1)))∧Below w.heap.size w w':=by
 obtain ⟨T,hT⟩:∃ T,inm p S (-1)=T:=⟨_,rfl⟩
 have HT:Hid (inm p S (-1)=T):=hT
 rw [hT]
 clear hT
 go_enter Tryz.func49,Tryz.ntmps49
 go_wp2
 go_loopw [5,7,10] (fun v5 _ v10 wr=>∃ (k:Nat) (m:Int),v5=.int .i64 m∧v10=.int .i64 (k:Int)∧k≤S.length∧Hid (inm p (S.drop k) m=T)∧Below w.heap.size w wr) (fun _ _ v10 _=>S.length - (intOf v10).toNat)
 case atStart=>exact ⟨0,-1,rfl,rfl,Nat.zero_le _,HT.out,Below.refl _ _⟩
 case round =>
  obtain ⟨k,m,rfl,rfl,hk,HK,hB⟩:=hrel
  by_cases hlt:k < S.length
  ·obtain ⟨g,rfl,hg,c1,c2⟩:=h.call hB k hlt
   have HK2:Hid (inm p (S.drop (k+1)) (if arnB S[k] p then max m S[k].1 else m)=T):=(by rw [← HK.out,List.drop_eq_getElem_cons hlt];rfl:inm p (S.drop (k+1)) (if arnB S[k] p then max m S[k].1 else m)=T)
   obtain ⟨u,v,huv⟩:∃ u v,S[k]=(u,v):=⟨_,_,rfl⟩
   rw [huv] at HK2 c1 c2
   have HA:Hid (∀ W:World,Calls Tryz.prog 98 #[.agg #[.int .i64 u,.int .i64 v],.int .i64 p] W fun e w'=>e=.returned (.bool (arnB (u,v) p))∧Below W.heap.size W w'):=isAround_any u v p
   have hB1:=balloc hB (.cells #[.int .i64 u,.int .i64 v] 51)
   have hlt1:wr.heap.size < (wr.alloc (.cells #[.int .i64 u,.int .i64 v] 51)).heap.size:=by simp
   have hbx:(wr.alloc (.cells #[.int .i64 u,.int .i64 v] 51)).cell? ⟨wr.heap.size,0,none⟩=some (.int .i64 u):=by simp [go_sem]
   simp only at HK2 c1 c2
   clear HK huv
   generalize arnB (u,v) p=o at HA HK2
   go_wp2_with fail
   refine (HA.out _).mono ?_
   rintro r w2 ⟨rfl,hb2⟩
   have hB2:=bstep hB1 hb2
   have hx2:=(hb2.cell (p:=⟨wr.heap.size,0,none⟩) hlt1).trans hbx
   cases o
   ·go_wp2
    go_roundw
    case rel=>exact ⟨k+1,m,rfl,by go_num,by omega,HK2.out,hB2⟩
    case measure=>simp [intOf];omega
   ·go_wp2
    go_roundw
    case rel=>exact ⟨k+1,max m u,by first | rfl | simp,by go_num,by omega,HK2.out,hB2⟩
    case measure=>simp [intOf];omega
  ·have HE:Hid (m=T):=(by rw [← HK.out,List.drop_eq_nil_of_le (by omega)];rfl:m=T)
   clear HK
   go_wp2
   go_ret
   exact ⟨by rw [← HE.out];rfl,hB⟩
def IlH (w:World) (p:Int) (x:World):Prop:=x.cell? ⟨w.heap.size,0,none⟩=some (.int .i64 p)∧w.heap.size < x.heap.size∧Below w.heap.size w x
theorem IlH.call {w x y:World} {p:Int} (h:IlH w p x) (hb:Below x.heap.size x y):IlH w p y :=
 ⟨(hb.cell (p:=⟨w.heap.size,0,none⟩) h.2.1).trans h.1,Nat.lt_of_lt_of_le h.2.1 hb.size,bstep h.2.2 hb⟩
theorem IlH.drew {w x:World} {p:Int} (h:IlH w p x):IlH w p x.drew:=⟨h.1,h.2.1,h.2.2.drew⟩
set_option maxRecDepth 100000 in
set_option maxHeartbeats 4000000 in
theorem isInLoop_any (a a':Option Addr) (c c':Nat) (S S':List (Int × Int)) (p q:Int) (w:World) (h:SpnA w a S) (h':SpnA w a' S') (hl:S.length≤5000) (hl':S'.length≤5000) :
  Calls Tryz.prog 32 #[.agg #[.int .i64 p,.int .i64 q],.slice a S.length c,.slice a' S'.length c'] w fun e w'=>e=.returned (.bool (decide (inm p S' (-1) < inm p S (-1))))∧Below w.heap.size w w':=by
 have hB0:=balloc (Below.refl w.heap.size w) (.cells #[.int .i64 p,.int .i64 q] 51)
 have hlt0:w.heap.size < (w.alloc (.cells #[.int .i64 p,.int .i64 q] 51)).heap.size:=by simp
 have hx0:(w.alloc (.cells #[.int .i64 p,.int .i64 q] 51)).cell? ⟨w.heap.size,0,none⟩=some (.int .i64 p):=by simp [go_sem]
 obtain ⟨w0,hw0⟩:∃ w0,w0=w.alloc (.cells #[.int .i64 p,.int .i64 q] 51):=⟨_,rfl⟩
 have hn0:(w0.drew).cell? ⟨w.heap.size,0,none⟩=some (.int .i64 p):=by rw [hw0];exact hx0
 have HI:Hid (∀ W:World,Below w.heap.size w W→Calls Tryz.prog 49 #[.slice a S.length c,.int .i64 p] W fun e w'=>e=.returned (.int .i64 (inm p S (-1)))∧Below W.heap.size W w'):=fun W hW=>innermost_any a c S p W (h.call hW) hl
 have HJ:Hid (∀ W:World,Below w.heap.size w W→Calls Tryz.prog 49 #[.slice a' S'.length c',.int .i64 p] W fun e w'=>e=.returned (.int .i64 (inm p S' (-1)))∧Below W.heap.size W w'):=fun W hW=>innermost_any a' c' S' p W (h'.call hW) hl'
 rw [← hw0] at hB0 hlt0 hx0
 have hD0:Below w.heap.size w w0.drew:=hB0.drew
 generalize inm p S (-1)=x at HI ⊢
 generalize inm p S' (-1)=y at HJ ⊢
 have hT:IlH w p w0:=⟨hx0,hlt0,hB0⟩
 clear h h' hl hl' hx0 hlt0 hB0 hn0 hD0
 go_enter Tryz.func32,Tryz.ntmps32
 go_upto_region 1 with fail
 rw [← hw0]
 clear hw0
 go_region_held3 (fun x=>x.cell? ⟨w.heap.size,0,none⟩=some (.int .i64 p)∧w.heap.size < x.heap.size∧Below w.heap.size w x)
  ((show IlH w p _;first | (with_reducible exact hT3) | (with_reducible exact hT.drew)))
  (first
   | (go_at_call 49;have hW3:=hT3.2.2;refine (HJ.out _ hW3).mono ?_;rintro e w3 ⟨rfl,hb3⟩;have hT3:=IlH.call hT3 hb3)
   | (go_at_call 49;have hW3:=hT.drew.2.2;refine (HI.out _ hW3).mono ?_;rintro e w3 ⟨rfl,hb3⟩;have hT3:=IlH.call hT.drew hb3)
   | fail)
 all_goals go_wp2
 all_goals go_ret
 all_goals exact ⟨rfl,hT3.2.2⟩
set_option maxHeartbeats 1000000 in
theorem loopsOf_any (a:Option Addr) (cap:Nat) (L:List ByteArray) (w:World) (h:ArgT w a L) (hp:playB L=true) (hs:signsB L=true) :
  Calls Tryz.prog 29 #[.slice a L.length cap] w fun e w'=>∃ v,e=.returned v∧SpnO w' w.heap.size v (lopS L)∧Below w.heap.size w w':=by
 have hB0:=balloc (Below.refl w.heap.size w) (.cells #[.string ⟨#[119,104,105,108,101]⟩,.string ⟨#[102,111,114]⟩] 9)
 obtain ⟨w0,hw0⟩:∃ w0,w0=w.alloc (.cells #[.string ⟨#[119,104,105,108,101]⟩,.string ⟨#[102,111,114]⟩] 9):=⟨_,rfl⟩
 have hlt0:w.heap.size < w0.heap.size:=by rw [hw0];simp
 have hcc:∀ j (h:j < [whT,foT].length),w0.cell? ⟨w.heap.size,0+j,none⟩=some (.string [whT,foT][j]):=fun j hj=>by
  rw [hw0]
  match j,hj with
  | 0,_=>simp [go_sem,whT]
  | 1,_=>simp [go_sem,foT]
 rw [← hw0] at hB0
 have HC:Hid (Calls Tryz.prog 30 #[.slice a L.length cap,.slice (some ⟨w.heap.size,0,none⟩) 2 2] w0 fun e w'=>∃ v,e=.returned v∧SpnO w' w0.heap.size v (lopS L)∧Below w0.heap.size w0 w'):=spansOf_any a cap L w.heap.size 0 2 [whT,foT] w0 (h.call hB0) hp hs hcc hlt0 (by decide)
 clear hcc
 go_enter Tryz.func29,Tryz.ntmps29
 go_wp2_with fail
 rw [← hw0]
 refine HC.out.mono ?_
 rintro r w1 ⟨v,rfl,hO,hb1⟩
 go_wp2
 go_ret
 exact ⟨_,rfl,⟨hO.1,hO.2.imp id (fun ⟨g,cp,cur,e1,e2,e3⟩=>⟨g,cp,cur,e1,by omega,e3⟩)⟩,bstep hB0 hb1⟩
end Go.Proofs.YtdgihicpjonjgaaGreatDoor
namespace Go.Proofs.YtdgihicpjonjgaaGreatDoor
open Go.RowKit
theorem one_cell (w:World) (s:ByteArray):∀ j (h:j < [s].length),(w.alloc (.cells #[.string s] 9)).cell? ⟨w.heap.size,0+j,none⟩=some (.string [s][j]):=fun j hj=>by
 match j,hj with
 | 0,_=>simp [go_sem]
end Go.Proofs.YtdgihicpjonjgaaGreatDoor
