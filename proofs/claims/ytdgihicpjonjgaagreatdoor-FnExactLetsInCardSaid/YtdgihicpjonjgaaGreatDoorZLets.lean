import Derived.Test.YtdgihicpjonjgaaGreatDoorZSpnZ
import Derived.Test.YtdgihicpjonjgaaGreatDoorZDefs
import Derived.Test.YtdgihicpjonjgaaGreatDoorZQdR
namespace Go.Proofs.YtdgihicpjonjgaaGreatDoor
open Go.RowKit
def letT:ByteArray:=⟨#[108,101,116]⟩
def letS (L:List ByteArray):List (Int × Int):=spn L [letT] L.length
noncomputable def letE (L:List ByteArray):List ByteArray:=if scopB L then (letS L).map fun s=>sgAt L (s.1+2) else []
theorem spn_let (L:List ByteArray) (p:Int):spnB L [letT] p=(isW (sgAt L p) [40] && isW (sgAt L (p+1)) [108,101,116]):=by
 unfold spnB
 rw [List.any_cons,List.any_nil,Bool.or_false]
 rw [show eqS (sgAt L (p+1)) letT=isW (sgAt L (p+1)) [108,101,116] from eqS_lit _ _]
theorem let_in {L:List ByteArray} (hp:playB L=true):∀ s∈letS L,0≤s.1∧s.1+2 < (L.length:Int):=fun s hs=>by
 obtain ⟨h0,_,h2,_⟩:=(spn_mem L [letT] s L.length).1 hs
 rw [spn_let,Bool.and_eq_true] at h2
 have hd:=play_dv hp (dv_in h2.2 (by decide))
 exact ⟨h0,(let_at hd (isW_eq h2.2)).2.1⟩
theorem let_short (L:List ByteArray):(letE L).length≤2000:=by
 unfold letE
 cases hs:scopB L
 ·exact Nat.zero_le _
 ·have h1:=play_len (scop_play17 hs)
  have h2:=spn_len L [letT] L.length
  show ((letS L).map _).length≤2000
  rw [List.length_map]
  unfold letS
  omega
theorem spn_last {L:List ByteArray} {k:Nat} (h1:k≤L.length) (h2:L.length≤k+1):spn L [letT] k=letS L:=by
 unfold letS
 by_cases e:k=L.length
 ·rw [e]
 ·have e2:L.length=k+1:=by omega
  rw [e2]
  show _=spn L [letT] k++(if spnB L [letT] (k:Int) then _ else [])
  rw [spn_let,show sgAt L ((k:Int)+1)=⟨#[]⟩ from sgAt_out (by omega),isW_nil _ (by decide),Bool.and_false]
  simp
set_option maxRecDepth 100000 in
set_option maxHeartbeats 4000000 in
theorem letsOf_any (a:Option Addr) (cap:Nat) (L:List ByteArray) (w:World) (h:ArgT w a L) (hpl:playB L=true) :
  Calls Tryz.prog 19 #[.slice a L.length cap] w fun e w'=>∃ v,e=.returned v∧OwnI w' w.heap.size v ((letS L).map fun s=>s.1+2)∧Below w.heap.size w w':=by
 have hsg:=play_signs hpl
 have hl2:=play_len hpl
 have hin:=let_in hpl
 have hsl:(letS L).length≤2000:=by have:=spn_len L [letT] L.length;unfold letS;omega
 have HSP:Hid (∀ W:World,ArgT W a L→Calls Tryz.prog 30 #[.slice a L.length cap,.slice (some ⟨W.heap.size,0,none⟩) 1 1] (W.alloc (.cells #[.string letT] 9)) fun e w'=>∃ v,e=.returned v∧SpnO w' (W.heap.size+1) v (letS L)∧Below W.heap.size W w'):=fun W hW=>by
  have hB:=balloc (Below.refl W.heap.size W) (.cells #[.string letT] 9)
  refine (spansOf_any a cap L W.heap.size 0 1 [letT] _ (hW.call hB) hpl hsg (one_cell W letT) (by simp) (by simp)).mono ?_
  rintro e w' ⟨v,rfl,hO,hb⟩
  rw [World.size_alloc] at hO
  exact ⟨v,rfl,hO,bstep hB hb⟩
 obtain ⟨i0,hi,hz0,hz1,hz2⟩:=info_parts infoI
 have hB0:=balloc (Below.refl w.heap.size w) (.cells #[] 2)
 have HG0:Hid (OwnI (w.alloc (.cells #[] 2)) w.heap.size (.slice (some ⟨w.heap.size,0,none⟩) 0 0) []):=World.ownsRow_made w #[] 0 (Nat.le_refl _) (Nat.zero_le _) rfl
 generalize letS L=S at hin hsl HSP ⊢
 clear hpl hsg
 go_enter Tryz.func19,Tryz.ntmps19
 go_upto_region 2 with fail
 obtain ⟨W0,hW0⟩:∃ W0,W0=w.alloc (.cells #[] 2):=⟨_,rfl⟩
 rw [← hW0] at hB0 HG0 ⊢
 clear hW0
 have hz0':=hB0.size
 go_wp2_with fail
 refine (HSP.out _ (h.call hB0)).mono ?_
 rintro e w2 ⟨v1,rfl,hO1,hb2⟩
 have hB2:=bstep hB0 hb2
 have hX2:=own_call HG0.out hb2
 have hO2:SpnO w2 w.heap.size v1 S:=own_low hO1 (by omega)
 obtain ⟨a1,c1,rfl,_⟩:=hO1.arg
 clear hO1 HG0 HSP hB0 hb2
 go_wp2
 go_loopw [3,5,11] (fun v3 _ v11 wr=>∃ k:Nat,v11=.int .i64 (k:Int)∧k≤S.length∧OwnI wr w.heap.size v3 ((S.take k).map fun s=>s.1+2)∧SpnO wr w.heap.size (.slice a1 S.length c1) S∧Below w.heap.size w wr) (fun _ _ v11 _=>S.length - (intOf v11).toNat)
 case atStart=>exact ⟨0,rfl,Nat.zero_le _,hX2,hO2,hB2⟩
 case round =>
  clear hX2 hO2 hB2
  obtain ⟨k,rfl,hk,hX,hO,hB⟩:=hrel
  by_cases hlt:k < S.length
  ·obtain ⟨a1',c1',e1,hA1⟩:=hO.arg
   injection e1 with e1 _ e3
   subst e1 e3
   obtain ⟨g,rfl,hg,d1,d2⟩:=hA1 k hlt
   obtain ⟨u,v,huv⟩:∃ u v,S[k]=(u,v):=⟨_,_,rfl⟩
   have hu:=hin _ (List.getElem_mem hlt)
   rw [huv] at hu d1 d2
   simp only at hu d1 d2
   have HTK:Hid ((S.take (k+1)).map (fun s=>s.1+2)=(S.take k).map (fun s=>s.1+2)++[u+2]):=(by rw [List.take_succ_eq_append_getElem hlt,List.map_append,huv];rfl:(S.take (k+1)).map (fun s=>s.1+2)=(S.take k).map (fun s=>s.1+2)++[u+2])
   have hQl:((S.take k).map fun s=>s.1+2).length≤2000:=by rw [List.length_map,List.length_take];omega
   clear huv hA1
   generalize (S.take k).map (fun s=>s.1+2)=X at hX HTK hQl
   obtain ⟨av,cv,rfl,_⟩:=own_shape hX
   have hwr:IntKind.i64.wrap (u+2)=u+2:=IntWalk.i64_in _ (by omega)
   have hbA:Below wr.heap.size wr (wr.alloc (.cells #[.int .i64 u,.int .i64 v] 51)):=balloc (Below.refl _ _) _
   obtain ⟨W1,hW1⟩:∃ W1,W1=wr.alloc (.cells #[.int .i64 u,.int .i64 v] 51):=⟨_,rfl⟩
   have cb0:W1.cell? ⟨wr.heap.size,0,none⟩=some (.int .i64 u):=by rw [hW1];simp [go_sem]
   rw [← hW1] at hbA
   have hX1:=own_call hX hbA
   have hO1:=own_call hO hbA
   have hB1:=bstep hB hbA
   have hbB:Below W1.heap.size W1 (W1.alloc (.cells #[.int .i64 (u+2)] 2)):=balloc (Below.refl _ _) _
   have hB1b:=bstep hB1 hbB
   have hcu:∀ y∈[Value.int .i64 (u+2)],y.oneCell'=true:=fun y hy=>by
    simp at hy
    subst hy
    rfl
   have hk3:X.length+1≤maxLen:=by unfold maxLen;omega
   have hk4:(X.length+1) * 8≤140737488355328:=by omega
   have HW1:Hid (W1=wr.alloc (.cells #[.int .i64 u,.int .i64 v] 51)):=hW1
   clear hX hO hW1
   go_upto_region 5 with fail
   rw [← HW1.out]
   clear HW1 d1 d2
   go_wp2_with (at_builtin;refine wpList_append_own _ rfl _ _ 29 rfl w.heap.size 2 i0 (.int .i64 0) 1 8 Tryz.underlying29 hi hz0 hz1 hz2 rfl (by decide) _ X.length _ rfl (own_call hX1 hbB) ⟨W1.heap.size,0,none⟩ 1 1 [.int .i64 (u+2)] rfl rfl (cell_one_new _ _ _) hcu hk3 hk4 hB1b.size ?_)
   intro v' W3 hown hgrow _
   obtain ⟨g',cap',rfl⟩:=ownsRow_succ hown
   have hX3:OwnI W3 w.heap.size (.slice (some ⟨g',0,none⟩) (X.length+1) cap') ((S.take (k+1)).map fun s=>s.1+2):=by
    rw [HTK.out]
    unfold OwnI
    rw [List.length_append,List.map_append]
    exact hown
   have hO3:SpnO W3 w.heap.size (.slice (some ⟨g,0,none⟩) S.length c1) S:=own_kept (own_call hO1 hbB) (fun q hq=>hgrow.block q (World.ownsRow.lt (own_call hO1 hbB) q hq).2 (fun e=>rows_ne hO1 hX1 (by decide) hq e.symm))
   have hB3:Below w.heap.size w W3:=hB1b.grown hgrow hB1b.size (fun q hq=>(World.ownsRow.lt hX1 q hq).1)
   clear hown hgrow hX1 hO1 hB1 hB1b hbB
   go_wp2
   go_roundw
   case rel=>exact ⟨k+1,by go_num,by omega,hX3,hO3,hB3⟩
   case measure=>simp [intOf];omega
  ·rw [List.take_of_length_le (by omega)] at hX
   obtain ⟨X,hXe⟩:∃ X,X=S.map (fun s=>s.1+2):=⟨_,rfl⟩
   have HX:Hid (X=S.map (fun s=>s.1+2)):=hXe
   rw [← hXe] at hX
   clear hXe
   obtain ⟨av,cv,rfl,_⟩:=own_shape hX
   go_wp2
   go_ret
   exact ⟨_,rfl,HX.out▸hX,hB⟩
set_option maxRecDepth 100000 in
set_option maxHeartbeats 4000000 in
theorem l18Places_any (a:Option Addr) (cap:Nat) (L:List ByteArray) (w:World) (h:ArgT w a L) (hl2:L.length≤2000) :
  Calls Tryz.prog 18 #[.slice a L.length cap] w fun e w'=>∃ v,e=.returned v∧OwnI w' w.heap.size v ((letS L).map fun s=>s.1)∧Below w.heap.size w w':=by
 obtain ⟨i0,hi,hz0,hz1,hz2⟩:=info_parts infoI
 have hB0:=balloc (Below.refl w.heap.size w) (.cells #[] 2)
 have HG0:Hid (OwnI (w.alloc (.cells #[] 2)) w.heap.size (.slice (some ⟨w.heap.size,0,none⟩) 0 0) []):=World.ownsRow_made w #[] 0 (Nat.le_refl _) (Nat.zero_le _) rfl
 go_enter Tryz.func18,Tryz.ntmps18
 go_wp2
 go_loopw [3,4] (fun v3 v4 wr=>∃ k:Nat,v4=.int .i64 (k:Int)∧k≤L.length∧OwnI wr w.heap.size v3 ((spn L [letT] k).map fun s=>s.1)∧Below w.heap.size w wr) (fun _ v4 _=>L.length - (intOf v4).toNat)
 case atStart=>exact ⟨0,rfl,Nat.zero_le _,HG0.out,hB0⟩
 case round =>
  clear HG0 hB0
  obtain ⟨k,rfl,hk,hX,hB⟩:=hrel
  have hsl:=spn_len L [letT] k
  by_cases hlt:k+1 < L.length
  ·have hA:=h.call hB
   obtain ⟨sb,o0,rfl,s0,hsb⟩:=hA.sg (i:=k) (by omega)
   obtain ⟨sb1,o1,ha1,s1,_⟩:=hA.sg (i:=k+1) hlt
   injection ha1 with ha1
   injection ha1 with e1 f1 _
   subst e1
   subst f1
   rw [show ((k+1:Nat):Int)=(k:Int)+1 by omega] at s1
   have hkl:(k:Int)+1 < (L.length:Int):=by omega
   have HS:Hid ((spn L [letT] (k+1)).map (fun s=>s.1)=(spn L [letT] k).map (fun s=>s.1)++(if isW (sgAt L (k:Int)) [40] && isW (sgAt L ((k:Int)+1)) [108,101,116] then [(k:Int)] else [])):=by
    show (spn L [letT] k++(if spnB L [letT] (k:Int) then _ else [])).map _=_
    rw [spn_let,List.map_append]
    split <;> rfl
   have hXl:((spn L [letT] k).map fun s=>s.1).length≤2000:=by rw [List.length_map];omega
   generalize (spn L [letT] k).map (fun s=>s.1)=X at hX HS hXl
   obtain ⟨av,cv,rfl,_⟩:=own_shape hX
   cases ho:isW (sgAt L (k:Int)) [40]
   ·have b40:((sgAt L (k:Int)).toList == [40])=false:=ho
    have HE:Hid ((spn L [letT] (k+1)).map (fun s=>s.1)=X):=(by rw [HS.out,ho];simp:(spn L [letT] (k+1)).map (fun s=>s.1)=X)
    clear HS ho
    generalize sgAt L (k:Int)=y0 at s0 b40
    generalize sgAt L ((k:Int)+1)=y1 at s1
    go_wp2
    go_roundw
    case rel=>exact ⟨k+1,by go_num,by omega,by rw [HE.out];exact hX,hB⟩
    case measure=>simp [intOf];omega
   ·have b40:((sgAt L (k:Int)).toList == [40])=true:=ho
    cases hc:isW (sgAt L ((k:Int)+1)) [108,101,116]
    ·have bl:((sgAt L ((k:Int)+1)).toList == [108,101,116])=false:=hc
     have HE:Hid ((spn L [letT] (k+1)).map (fun s=>s.1)=X):=(by rw [HS.out,ho,hc];simp:(spn L [letT] (k+1)).map (fun s=>s.1)=X)
     clear HS ho hc
     generalize sgAt L (k:Int)=y0 at s0 b40
     generalize sgAt L ((k:Int)+1)=y1 at s1 bl
     go_wp2
     go_roundw
     case rel=>exact ⟨k+1,by go_num,by omega,by rw [HE.out];exact hX,hB⟩
     case measure=>simp [intOf];omega
    ·have bl:((sgAt L ((k:Int)+1)).toList == [108,101,116])=true:=hc
     have HE:Hid ((spn L [letT] (k+1)).map (fun s=>s.1)=X++[(k:Int)]):=(by rw [HS.out,ho,hc];rfl:(spn L [letT] (k+1)).map (fun s=>s.1)=X++[(k:Int)])
     clear HS ho hc
     generalize sgAt L (k:Int)=y0 at s0 b40
     generalize sgAt L ((k:Int)+1)=y1 at s1 bl
     have hbB:Below wr.heap.size wr (wr.alloc (.cells #[.int .i64 (k:Int)] 2)):=balloc (Below.refl _ _) _
     have hB1:=bstep hB hbB
     have hcu:∀ y∈[Value.int .i64 (k:Int)],y.oneCell'=true:=fun y hy=>by
      simp at hy
      subst hy
      rfl
     have hk3:X.length+1≤maxLen:=by unfold maxLen;omega
     have hk4:(X.length+1) * 8≤140737488355328:=by omega
     go_wp2_with (at_builtin;refine wpList_append_own _ rfl _ _ 29 rfl w.heap.size 2 i0 (.int .i64 0) 1 8 Tryz.underlying29 hi hz0 hz1 hz2 rfl (by decide) _ X.length _ rfl (own_call hX hbB) ⟨wr.heap.size,0,none⟩ 1 1 [.int .i64 (k:Int)] rfl rfl (cell_one_new _ _ _) hcu hk3 hk4 hB1.size ?_)
     intro v' W3 hown hgrow _
     obtain ⟨g',cap',rfl⟩:=ownsRow_succ hown
     have hX3:OwnI W3 w.heap.size (.slice (some ⟨g',0,none⟩) (X.length+1) cap') ((spn L [letT] (k+1)).map fun s=>s.1):=by
      rw [HE.out]
      unfold OwnI
      rw [List.length_append,List.map_append]
      exact hown
     have hB3:Below w.heap.size w W3:=hB1.grown hgrow hB1.size (fun q hq=>(World.ownsRow.lt hX q hq).1)
     clear hown hgrow hX hB1 hbB
     go_wp2
     go_roundw
     case rel=>exact ⟨k+1,by go_num,by omega,hX3,hB3⟩
     case measure=>simp [intOf];omega
  ·rw [spn_last hk (by omega)] at hX
   have hkl:¬ (k:Int)+1 < (L.length:Int):=by omega
   obtain ⟨X,hXe⟩:∃ X,X=(letS L).map (fun s=>s.1):=⟨_,rfl⟩
   have HX:Hid (X=(letS L).map (fun s=>s.1)):=hXe
   rw [← hXe] at hX
   clear hXe
   obtain ⟨av,cv,rfl,_⟩:=own_shape hX
   go_wp2
   go_ret
   exact ⟨_,rfl,HX.out▸hX,hB⟩
set_option maxRecDepth 100000 in
set_option maxHeartbeats 4000000 in
theorem letsInS_any (a:Option Addr) (cap:Nat) (L:List ByteArray) (w:World) (h:ArgT w a L) (hL:L.length≤1048576) :
  Calls Tryz.prog 10 #[.slice a L.length cap] w fun e w'=>∃ v,e=.returned v∧OwnN w' w.heap.size v (letE L)∧Below w.heap.size w w':=by
 have hB0:=balloc (Below.refl w.heap.size w) (.cells #[] 9)
 have HG0:Hid (OwnG (w.alloc (.cells #[] 9)) w.heap.size w.heap.size 0 0 []):=World.ownsRow_made w #[] 0 (Nat.le_refl _) (Nat.zero_le _) rfl
 have hz0w:w.heap.size < (w.alloc (.cells #[] 9)).heap.size:=by simp
 obtain ⟨W0,hW0⟩:∃ W0,W0=w.alloc (.cells #[] 9):=⟨_,rfl⟩
 have HW0:Hid (W0=w.alloc (.cells #[] 9)):=hW0
 rw [← hW0] at hB0 HG0 hz0w
 clear hW0
 have HSC:Hid (Calls Tryz.prog 14 #[.slice a L.length cap] W0 fun e w'=>e=.returned (.bool (scopB L))∧Below W0.heap.size W0 w'):=scopedS_any a cap L W0 (h.call hB0) hL
 cases hp:scopB L
 ·have HC:Hid (letE L=[]):=(by unfold letE;rw [hp];rfl:letE L=[])
  rw [hp] at HSC
  clear hp
  go_enter Tryz.func10,Tryz.ntmps10
  go_upto_region 2 with fail
  rw [← HW0.out]
  clear HW0
  go_wp2_with fail
  refine HSC.out.mono ?_
  rintro e w1 ⟨rfl,hb1⟩
  have HG1:Hid (OwnG w1 w.heap.size w.heap.size 0 0 []):=own_call HG0.out hb1
  go_wp2
  go_ret
  exact ⟨_,rfl,by rw [HC.out];exact ⟨HG1.out,fun e=>by cases e⟩,bstep hB0 hb1⟩
 ·have hpl:=scop_play17 hp
  have hl2:=play_len hpl
  have hin:=let_in hpl
  have hsl:(letS L).length≤2000:=by have:=spn_len L [letT] L.length;unfold letS;omega
  have HC:Hid (((letS L).map fun s=>s.1).map (fun p=>sgAt L (p+2))=letE L):=(by unfold letE;rw [hp,List.map_map];rfl:((letS L).map fun s=>s.1).map (fun p=>sgAt L (p+2))=letE L)
  rw [hp] at HSC
  have HPL:Hid (∀ W:World,ArgT W a L→Calls Tryz.prog 18 #[.slice a L.length cap] W fun e w'=>∃ v,e=.returned v∧OwnI w' W.heap.size v ((letS L).map fun s=>s.1)∧Below W.heap.size W w'):=fun W hW=>l18Places_any a cap L W hW hl2
  have hNb:∀ y∈(letS L).map (fun s=>s.1),0≤y∧y+2 < (L.length:Int):=fun y hy=>by
   obtain ⟨s,hs,rfl⟩:=List.mem_map.mp hy
   exact hin s hs
  have hXl:((letS L).map fun s=>s.1).length≤2000:=by rw [List.length_map];exact hsl
  generalize (letS L).map (fun s=>s.1)=X at HC HPL hNb hXl
  obtain ⟨i0,hi,hz0,hz1,hz2⟩:=info_parts infoT
  clear hp hpl hin hsl
  go_enter Tryz.func10,Tryz.ntmps10
  go_upto_region 2 with fail
  rw [← HW0.out]
  clear HW0
  go_wp2_with fail
  refine HSC.out.mono ?_
  rintro e w1 ⟨rfl,hb1⟩
  have HG1:Hid (OwnG w1 w.heap.size w.heap.size 0 0 []):=own_call HG0.out hb1
  have hB1:=bstep hB0 hb1
  have hz1w:w.heap.size < w1.heap.size:=Nat.lt_of_lt_of_le hz0w hb1.size
  clear HSC HG0 hB0 hb1 hz0w
  go_wp2_with fail
  refine (HPL.out _ (h.call hB1)).mono ?_
  rintro e w2 ⟨v1,rfl,hO1,hb2⟩
  obtain ⟨av,cv,rfl,hcv,hRn⟩:=hO1.rowN
  have HG2:Hid (OwnG w2 w.heap.size w.heap.size 0 0 []):=own_call HG1.out hb2
  have hR2:=hRn.one hz1w
  have hB2:=bstep hB1 hb2
  clear HPL hRn hO1 HG1 hB1 hb2 hz1w
  go_wp2
  go_loopw [3,5] (fun v3 v5 wr=>∃ (m g n5 c5:Nat),v5=.int .i64 (m:Int)∧v3=.slice (some ⟨g,0,none⟩) n5 c5∧m≤X.length∧Hid (n5=m)∧OwnG wr w.heap.size g n5 c5 ((X.map fun p=>sgAt L (p+2)).take m)∧RowI (fun k=>k=g) wr av X∧Below w.heap.size w wr) (fun _ v5 _=>X.length - (intOf v5).toNat)
  case atStart=>exact ⟨0,_,0,0,rfl,rfl,Nat.zero_le _,rfl,by rw [List.take_zero];exact HG2.out,hR2,hB2⟩
  case round =>
   clear HG2 hR2 hB2
   obtain ⟨m,g,n6,c6,rfl,rfl,hm,HN,hG,hRd,hB⟩:=hrel
   by_cases hlt:m < X.length
   ·obtain ⟨sy,oy,rfl,hsy,_,hcy⟩:=hRd m hlt
    obtain ⟨y0,y1⟩:=hNb _ (List.getElem_mem hlt)
    have HTK:Hid ((X.map fun p=>sgAt L (p+2)).take (m+1)=(X.map fun p=>sgAt L (p+2)).take m++[sgAt L (X[m]+2)]):=by
     have:=List.take_succ_eq_append_getElem (l:=X.map fun p=>sgAt L (p+2)) (i:=m) (by simpa using hlt)
     rw [List.getElem_map] at this
     exact this
    generalize X[m]=y at hcy y0 y1 HTK
    obtain ⟨yy,rfl⟩:∃ yy:Nat,y=(yy:Int):=⟨y.toNat,by omega⟩
    obtain ⟨sa,oa,rfl,hac,ham⟩:=(h.call hB).sg (i:=yy+2) (by omega)
    rw [show ((yy+2:Nat):Int)=(yy:Int)+2 by omega] at hac
    have hwr:IntKind.i64.wrap ((yy:Int)+2)=(yy:Int)+2:=IntWalk.i64_in _ (by omega)
    have hy3:((yy:Int)+2).toNat=yy+2:=by omega
    have hy4:(0:Int)≤(yy:Int)+2:=by omega
    have htn:(m:Int) < (X.length:Int):=by omega
    have hn62:n6+1≤2001:=by rw [HN.out];omega
    generalize sgAt L ((yy:Int)+2)=t at hac HTK
    have hcc2:∀ u∈[Value.string t],u.oneCell'=true:=fun u hu=>by simp at hu;subst hu;rfl
    have hcc3:n6+1≤maxLen:=by unfold maxLen;omega
    have hcc4:(n6+1) * 16≤140737488355328:=by omega
    have hsz:=hB.size
    have hcc5:w.heap.size≤(wr.alloc (.cells #[.string t] 9)).heap.size:=by simp;omega
    obtain ⟨Q,hQ⟩:∃ Q,Q=(X.map fun p=>sgAt L (p+2)).take m:=⟨_,rfl⟩
    have HQ:Hid (Q=(X.map fun p=>sgAt L (p+2)).take m):=hQ
    rw [← hQ] at hG
    have HG:Hid (OwnG wr w.heap.size g n6 c6 Q):=hG
    clear hG hQ
    go_wp2_with (at_builtin;refine wpList_append_at _ rfl _ _ 22 rfl w.heap.size 9 i0 (.string ⟨#[]⟩) 1 16 Tryz.underlying22 hi hz0 hz1 hz2 rfl (by decide) _ _ _ rfl (World.ownsRow.alloc HG.out _) ⟨wr.heap.size,0,none⟩ 1 1 [.string t] rfl rfl (cell_one_new _ _ _) hcc2 hcc3 hcc4 hcc5 ?_)
    intro v' w5 hown' hgrow hwh
    obtain ⟨g5,c7,rfl⟩:=ownsRow_succ hown'
    have hw5:g5=g∨g5=(wr.alloc (.cells #[.string t] 9)).heap.size:=by
     rcases hwh g5 rfl with e | e
     ·left;simpa [Value.ownBlock] using e.symm
     ·right;rw [World.size_alloc];exact e
    have hG5:OwnG w5 w.heap.size g5 (n6+1) c7 ((X.map fun p=>sgAt L (p+2)).take (m+1)):=by
     rw [HTK.out,← HQ.out]
     unfold OwnG
     rw [List.map_append]
     exact hown'
    have hRd5:=rowI_app hRd hgrow hw5
    have hB5:Below w.heap.size w w5:=(hB.alloc hB.size (.cells #[.string t] 9)).grown hgrow (by simp;omega) (fun k hk=>(World.ownsRow.lt HG.out k hk).1)
    clear hown' hgrow hwh hw5 hRd hcc2 hcc3 hcc4 hcc5
    go_wp2
    go_roundw
    case rel=>exact ⟨m+1,g5,n6+1,c7,by go_num,rfl,by omega,by rw [HN.out];rfl,hG5,hRd5,hB5⟩
    case measure=>simp [intOf];omega
   ·have e1:(X.map fun p=>sgAt L (p+2)).take m=letE L:=by rw [List.take_of_length_le (by rw [List.length_map];omega),HC.out]
    have HL:Hid (n6=(letE L).length):=by
     show n6=(letE L).length
     rw [HN.out,← HC.out,List.length_map]
     omega
    rw [e1] at hG
    have HG:Hid (OwnN wr w.heap.size (.slice (some ⟨g,0,none⟩) n6 c6) (letE L)):=by
     refine ⟨?_,fun e=>by cases e⟩
     unfold OwnT
     rw [← HL.out]
     exact hG
    have htn:¬ (m:Int) < (X.length:Int):=by omega
    clear e1 hG hRd
    go_wp2
    go_ret
    exact ⟨_,rfl,HG.out,hB⟩
set_option maxRecDepth 100000 in
set_option maxHeartbeats 4000000 in
theorem letsInI_any (a:Option Addr) (cap:Nat) (L:List ByteArray) (w:World) (ht:Tab w) (h:ArgT w a L) (hL:L.length≤1048576) :
  Calls Tryz.prog 11 #[.slice a L.length cap] w fun e w'=>∃ g n cp,e=.returned (.slice (some ⟨g,0,none⟩) n cp)∧n=(letE L).length∧OwnG w' w.heap.size g n cp (letE L)∧Below w.heap.size w w':=by
 have hB0:=balloc (Below.refl w.heap.size w) (.cells #[] 9)
 have HG0:Hid (OwnG (w.alloc (.cells #[] 9)) w.heap.size w.heap.size 0 0 []):=World.ownsRow_made w #[] 0 (Nat.le_refl _) (Nat.zero_le _) rfl
 have hz0w:w.heap.size < (w.alloc (.cells #[] 9)).heap.size:=by simp
 obtain ⟨W0,hW0⟩:∃ W0,W0=w.alloc (.cells #[] 9):=⟨_,rfl⟩
 have HW0:Hid (W0=w.alloc (.cells #[] 9)):=hW0
 rw [← hW0] at hB0 HG0 hz0w
 clear hW0
 have HSC:Hid (Calls Tryz.prog 16 #[.slice a L.length cap] W0 fun e w'=>e=.returned (.bool (scopB L))∧Below W0.heap.size W0 w'):=by
  have:=scopedQ_any a cap L W0 (tab_call ht hB0) (h.call hB0) hL
  rw [scop_same] at this
  exact this
 cases hp:scopB L
 ·have HC:Hid (letE L=[]):=(by unfold letE;rw [hp];rfl:letE L=[])
  rw [hp] at HSC
  clear hp
  go_enter Tryz.func11,Tryz.ntmps11
  go_upto_region 2 with fail
  rw [← HW0.out]
  clear HW0
  go_wp2_with fail
  refine HSC.out.mono ?_
  rintro e w1 ⟨rfl,hb1⟩
  have HG1:Hid (OwnG w1 w.heap.size w.heap.size 0 0 []):=own_call HG0.out hb1
  go_wp2
  go_ret
  exact ⟨_,_,_,rfl,by rw [HC.out];rfl,by rw [HC.out];exact HG1.out,bstep hB0 hb1⟩
 ·have hpl:=scop_play17 hp
  have hl2:=play_len hpl
  have hin:=let_in hpl
  have hsl:(letS L).length≤2000:=by have:=spn_len L [letT] L.length;unfold letS;omega
  have HC:Hid (((letS L).map fun s=>s.1+2).map (sgAt L)=letE L):=(by unfold letE;rw [hp,List.map_map];rfl:((letS L).map fun s=>s.1+2).map (sgAt L)=letE L)
  rw [hp] at HSC
  have HPL:Hid (∀ W:World,ArgT W a L→Calls Tryz.prog 19 #[.slice a L.length cap] W fun e w'=>∃ v,e=.returned v∧OwnI w' W.heap.size v ((letS L).map fun s=>s.1+2)∧Below W.heap.size W w'):=fun W hW=>letsOf_any a cap L W hW hpl
  have hNb:∀ y∈(letS L).map (fun s=>s.1+2),0≤y∧y < (L.length:Int):=fun y hy=>by
   obtain ⟨s,hs,rfl⟩:=List.mem_map.mp hy
   have:=hin s hs
   omega
  have hXl:((letS L).map fun s=>s.1+2).length≤2000:=by rw [List.length_map];exact hsl
  generalize (letS L).map (fun s=>s.1+2)=X at HC HPL hNb hXl
  obtain ⟨i0,hi,hz0,hz1,hz2⟩:=info_parts infoT
  clear hp hpl hin hsl
  go_enter Tryz.func11,Tryz.ntmps11
  go_upto_region 2 with fail
  rw [← HW0.out]
  clear HW0
  go_wp2_with fail
  refine HSC.out.mono ?_
  rintro e w1 ⟨rfl,hb1⟩
  have HG1:Hid (OwnG w1 w.heap.size w.heap.size 0 0 []):=own_call HG0.out hb1
  have hB1:=bstep hB0 hb1
  have hz1w:w.heap.size < w1.heap.size:=Nat.lt_of_lt_of_le hz0w hb1.size
  clear HSC HG0 hB0 hb1 hz0w
  go_wp2_with fail
  refine (HPL.out _ (h.call hB1)).mono ?_
  rintro e w2 ⟨v1,rfl,hO1,hb2⟩
  obtain ⟨av,cv,rfl,hcv,hRn⟩:=hO1.rowN
  have HG2:Hid (OwnG w2 w.heap.size w.heap.size 0 0 []):=own_call HG1.out hb2
  have hR2:=hRn.one hz1w
  have hB2:=bstep hB1 hb2
  clear HPL hRn hO1 HG1 hB1 hb2 hz1w
  go_wp2
  go_loopw [3,5,14] (fun v3 _ v14 wr=>∃ (m g n5 c5:Nat),v14=.int .i64 (m:Int)∧v3=.slice (some ⟨g,0,none⟩) n5 c5∧m≤X.length∧Hid (n5=m)∧OwnG wr w.heap.size g n5 c5 ((X.map (sgAt L)).take m)∧RowI (fun k=>k=g) wr av X∧Below w.heap.size w wr) (fun _ _ v14 _=>X.length - (intOf v14).toNat)
  case atStart=>exact ⟨0,_,0,0,rfl,rfl,Nat.zero_le _,rfl,by rw [List.take_zero];exact HG2.out,hR2,hB2⟩
  case round =>
   clear HG2 hR2 hB2
   obtain ⟨m,g,n6,c6,rfl,rfl,hm,HN,hG,hRd,hB⟩:=hrel
   by_cases hlt:m < X.length
   ·obtain ⟨sy,oy,rfl,hsy,_,hcy⟩:=hRd m hlt
    obtain ⟨y0,y1⟩:=hNb _ (List.getElem_mem hlt)
    have HTK:Hid ((X.map (sgAt L)).take (m+1)=(X.map (sgAt L)).take m++[sgAt L X[m]]):=by
     have:=List.take_succ_eq_append_getElem (l:=X.map (sgAt L)) (i:=m) (by simpa using hlt)
     rw [List.getElem_map] at this
     exact this
    generalize X[m]=y at hcy y0 y1 HTK
    obtain ⟨yy,rfl⟩:∃ yy:Nat,y=(yy:Int):=⟨y.toNat,by omega⟩
    obtain ⟨sa,oa,rfl,hac,ham⟩:=(h.call hB).sg (i:=yy) (by omega)
    have htn:(m:Int) < (X.length:Int):=by omega
    have hn62:n6+1≤2001:=by rw [HN.out];omega
    generalize sgAt L (yy:Int)=t at hac HTK
    have hcc2:∀ u∈[Value.string t],u.oneCell'=true:=fun u hu=>by simp at hu;subst hu;rfl
    have hcc3:n6+1≤maxLen:=by unfold maxLen;omega
    have hcc4:(n6+1) * 16≤140737488355328:=by omega
    have hsz:=hB.size
    have hcc5:w.heap.size≤(wr.alloc (.cells #[.string t] 9)).heap.size:=by simp;omega
    obtain ⟨Q,hQ⟩:∃ Q,Q=(X.map (sgAt L)).take m:=⟨_,rfl⟩
    have HQ:Hid (Q=(X.map (sgAt L)).take m):=hQ
    rw [← hQ] at hG
    have HG:Hid (OwnG wr w.heap.size g n6 c6 Q):=hG
    clear hG hQ
    go_wp2_with (at_builtin;refine wpList_append_at _ rfl _ _ 22 rfl w.heap.size 9 i0 (.string ⟨#[]⟩) 1 16 Tryz.underlying22 hi hz0 hz1 hz2 rfl (by decide) _ _ _ rfl (World.ownsRow.alloc HG.out _) ⟨wr.heap.size,0,none⟩ 1 1 [.string t] rfl rfl (cell_one_new _ _ _) hcc2 hcc3 hcc4 hcc5 ?_)
    intro v' w5 hown' hgrow hwh
    obtain ⟨g5,c7,rfl⟩:=ownsRow_succ hown'
    have hw5:g5=g∨g5=(wr.alloc (.cells #[.string t] 9)).heap.size:=by
     rcases hwh g5 rfl with e | e
     ·left;simpa [Value.ownBlock] using e.symm
     ·right;rw [World.size_alloc];exact e
    have hG5:OwnG w5 w.heap.size g5 (n6+1) c7 ((X.map (sgAt L)).take (m+1)):=by
     rw [HTK.out,← HQ.out]
     unfold OwnG
     rw [List.map_append]
     exact hown'
    have hRd5:=rowI_app hRd hgrow hw5
    have hB5:Below w.heap.size w w5:=(hB.alloc hB.size (.cells #[.string t] 9)).grown hgrow (by simp;omega) (fun k hk=>(World.ownsRow.lt HG.out k hk).1)
    clear hown' hgrow hwh hw5 hRd hcc2 hcc3 hcc4 hcc5
    go_wp2
    go_roundw
    case rel=>exact ⟨m+1,g5,n6+1,c7,by go_num,rfl,by omega,by rw [HN.out];rfl,hG5,hRd5,hB5⟩
    case measure=>simp [intOf];omega
   ·have e1:(X.map (sgAt L)).take m=letE L:=by rw [List.take_of_length_le (by rw [List.length_map];omega),HC.out]
    have HL:Hid (n6=(letE L).length):=by
     show n6=(letE L).length
     rw [HN.out,← HC.out,List.length_map]
     omega
    rw [e1] at hG
    have HG:Hid (OwnG wr w.heap.size g n6 c6 (letE L)):=hG
    have htn:¬ (m:Int) < (X.length:Int):=by omega
    clear e1 hG hRd
    go_wp2
    go_ret
    exact ⟨_,_,_,rfl,HL.out,HG.out,hB⟩
end Go.Proofs.YtdgihicpjonjgaaGreatDoor
namespace Go.Proofs.YtdgihicpjonjgaaGreatDoor
open Go.RowKit
set_option maxRecDepth 100000 in
set_option maxHeartbeats 4000000 in
theorem lawLetsIn (a:Option Addr) (cap:Nat) (L:List ByteArray) (w:World) (ht:Tab w) (h:ArgT w a L) (hL:L.length≤maxLen) :
  Calls Tryz.prog 4 #[.slice a L.length cap] w fun e w'=>e=.returned (.bool true)∧Below w.heap.size w w':=by
 go_enter Tryz.func4,Tryz.ntmps4
 go_wp2_with fail
 refine (szStringS_any a cap L _ h hL).mono ?_
 rintro e w1 ⟨x,rfl,hx,hb1⟩
 by_cases hneg:x < 0
 ·go_wp2
  go_ret
  exact ⟨rfl,hb1⟩
 obtain ⟨hL2,hR2⟩:=hx (by omega)
 have hm:∀ i (h:i < L.length),L[i].size≤maxLen:=fun i hi=>by
  obtain ⟨_,_,_,_,_,hm⟩:=h i hi
  exact hm
 clear hR2
 go_wp2_with fail
 refine (toStringS_any a cap L _ (h.call hb1) hL2).mono ?_
 rintro e w2 ⟨rfl,hr2,hb2⟩
 have hB2:=bstep hb1 hb2
 go_wp2_with fail
 refine (letsInS_any _ _ L _ (hr2.arg hm) hL2).mono ?_
 rintro e w3 ⟨v1,rfl,hO1,hb3⟩
 have hXl:=let_short L
 have HU:Hid (∀ W,Tab W→∀ b,ArgT W b L→∀ cb,Calls Tryz.prog 11 #[.slice b L.length cb] W fun e w'=>∃ g n cp,e=.returned (.slice (some ⟨g,0,none⟩) n cp)∧n=(letE L).length∧OwnG w' W.heap.size g n cp (letE L)∧Below W.heap.size W w'):=fun W hT b hA cb=>letsInI_any b cb L W hT hA hL2
 generalize letE L=X at hO1 HU hXl
 have hB3:=bstep hB2 hb3
 obtain ⟨g1,c1,rfl,hG1⟩:=hO1.own
 have hr1:=hG1.row.1
 have hz1:=hr1.1
 clear hO1 hG1 hr2
 go_wp2_with fail
 refine (toStringS_any a cap L _ (h.call hB3) hL2).mono ?_
 rintro e w4 ⟨rfl,hr4,hb4⟩
 have hB4:=bstep hB3 hb4
 replace hr1:=hr1.call hb4
 have hz4:=hr4.1
 have hwz:w.heap.size≤w3.heap.size:=hB3.size
 obtain ⟨g4,hg4⟩:∃ g4,g4=w3.heap.size:=⟨_,rfl⟩
 rw [← hg4] at hr4 hz1 hz4 hwz ⊢
 clear hb1 hb2 hb3 hB2 hB3 hb4 hg4
 go_wp2_with fail
 refine (HU.out _ (tab_call ht hB4) _ (hr4.arg hm) _).mono ?_
 rintro e w5 ⟨g5,n5,c5,rfl,hn5,hG5,hb5⟩
 subst hn5
 obtain ⟨hr5,hg5⟩:=hG5.row
 have hB5:=bstep hB4 hb5
 replace hr1:=hr1.call hb5
 replace hr4:=hr4.call hb5
 have hzw:w.heap.size≤g5:=by omega
 have n14:g1≠g4:=by omega
 have n54:g5≠g4:=by omega
 have n15:g1≠g5:=by omega
 clear hG5 hB4 hb5
 go_wp2_with fail
 refine (eqStringS_same 0 0 _ _ _ _ (isT_row hr5) (isT_row hr1) (by omega)).mono ?_
 rintro e w6 ⟨rfl,hb6⟩
 replace hr1:=hr1.call hb6
 replace hr4:=hr4.call hb6
 replace hr5:=hr5.call hb6
 have hB6:=bstep hB5 hb6
 clear hb6 hB5
 go_wp2_with fail
 refine (toStringS_any a cap L _ (h.call hB6) hL2).mono ?_
 rintro e w7 ⟨rfl,hr7,hb7⟩
 replace hr1:=hr1.call hb7
 replace hr4:=hr4.call hb7
 replace hr5:=hr5.call hb7
 have hB7:=bstep hB6 hb7
 clear hb7 hB6
 go_wp2_with fail
 refine (eqStringS_two _ _ _ _ L _ (hr4.arg hm) (hr7.arg hm) hL2).mono ?_
 rintro e w8 ⟨rfl,hb8⟩
 replace hr1:=hr1.call hb8
 replace hr4:=hr4.call hb8
 replace hr5:=hr5.call hb8
 have hB8:=bstep hB7 hb8
 clear hb8 hB7 hr7
 go_wp2_with fail
 refine (markStringS_row g4 _ L _ hr4 hL2).mono ?_
 rintro e w9 ⟨rfl,hb9,_⟩
 replace hr1:=hr1.but hb9 n14
 replace hr5:=hr5.but hb9 n54
 have hB9:=But.below hB8 hwz hb9
 clear hb9 hB8 hr4
 go_wp2_with fail
 refine (eqStringS_same 0 0 _ _ _ _ (isT_row hr5) (isT_row hr1) (by omega)).mono ?_
 rintro e w10 ⟨rfl,hb10⟩
 replace hr1:=hr1.call hb10
 replace hr5:=hr5.call hb10
 have hB10:=bstep hB9 hb10
 clear hb10 hB9
 go_wp2_with fail
 refine (markStringS_row g5 _ _ _ hr5 (by omega)).mono ?_
 rintro e w11 ⟨rfl,hb11,hr11⟩
 replace hr1:=hr1.but hb11 n15
 have hB11:=But.below hB10 hzw hb11
 clear hb11 hB10 hr5
 go_wp2_with fail
 refine (heldStringS_row g5 _ _ _ hr11 (by omega)).mono ?_
 rintro e w11b ⟨rfl,hb11b⟩
 replace hr1:=hr1.call hb11b
 replace hr11:=hr11.call hb11b
 have hB11b:=bstep hB11 hb11b
 clear hb11b hB11
 go_wp2_with fail
 refine (toStringS_any a cap L _ (h.call hB11b) hL2).mono ?_
 rintro e w12 ⟨rfl,hr12,hb12⟩
 replace hr1:=hr1.call hb12
 replace hr11:=hr11.call hb12
 have hB12:=bstep hB11b hb12
 clear hb12 hB11b
 go_wp2_with fail
 refine (HU.out _ (tab_call ht hB12) _ (hr12.arg hm) _).mono ?_
 rintro e w13 ⟨gD,nD,cD,rfl,hnD,hGD,hb13⟩
 subst hnD
 have hr13:=hGD.row.1
 replace hr1:=hr1.call hb13
 replace hr11:=hr11.call hb13
 have hB13:=bstep hB12 hb13
 clear hb13 hB12 hGD hr12
 go_wp2_with fail
 refine (eqStringS_same 0 0 _ _ _ _ (isT_row hr13) (isT_row hr1) (by omega)).mono ?_
 rintro e w14 ⟨rfl,hb14⟩
 replace hr11:=hr11.call hb14
 have hB14:=bstep hB13 hb14
 clear hb14 hB13 hr1 hr13
 go_wp2_with fail
 refine (heldStringS_row g5 _ _ _ hr11 (by omega)).mono ?_
 rintro e w15 ⟨rfl,hb15⟩
 have hB15:=bstep hB14 hb15
 clear hb15 hB14 hr11
 go_wp2
 go_ret
 exact ⟨rfl,hB15⟩
end Go.Proofs.YtdgihicpjonjgaaGreatDoor
