import Derived.Test.YtdgihicpjonjgaaGreatDoorZRdThree
import Derived.Test.YtdgihicpjonjgaaGreatDoorZQdTwo
import Derived.Test.YtdgihicpjonjgaaGreatDoorZRdN
import Derived.Deep.RegionWith
namespace Go.Proofs.YtdgihicpjonjgaaGreatDoor
open Go.RowKit
namespace Q
set_option maxRecDepth 100000 in
set_option maxHeartbeats 8000000 in
theorem read_hidden {a:Option Addr} {cap:Nat} {L:List ByteArray} {c n:Nat} (_hR:ReadC a cap L c n) (_hK:RBlkC a cap L c n) (hL:L.length≤2000) (hsg:signsB L=true) (S:Nat→Prop) (E:Blks) (lp:Bool) (F:Ot) (U:Nat) (i:Int) (w:World) (h:St S c a cap L E F U w) (hv:ItV L i) (ho:isW (sgAt L i) [40]=true) (hc:isW (sgAt L (i+1)) [104,105,100,100,101,110]=true) (_hn:2 * farN L i+1≤n+1) (_hE:E.length+(n+1)≤20000) (hU:(U:Int)≤i) :
  Calls Tryz.prog 120 #[.pointer (some ⟨c,0,none⟩),.int .i64 i,.bool lp] w fun r w'=>r=.returned (.tuple #[])∧∃ S' U',St S' c a cap L E (F.add (wk L (n+1) 0 false i (knE E lp))) U' w'∧Nxt S S' w w'∧(U':Int)≤itemE L i:=by
 have hends:=hv.ends
 obtain ⟨hit,k,e,hch,he0,he1,he,hie⟩:=hv.parts ho
 have hke:=chI_ends k _ hch he0
 have HW:Hid (wk L (n+1) 0 false i (knE E lp)=Ot.none):=itw_hidden (wk L n) (knE E lp) ho hc
 have HF:Hid (F.add (wk L (n+1) 0 false i (knE E lp))=F):=(by rw [HW.out];exact Ot.add_none F:F.add (wk L (n+1) 0 false i (knE E lp))=F)
 rw [HF.out]
 clear HW HF
 have HPP:Hid (∀ W,ArgT W a L→Calls Tryz.prog 118 #[.slice a L.length cap,.int .i64 i] W fun r W'=>∃ av cv,r=.returned (.slice av k cv)∧k≤cv∧RowN W.heap.size W' av (chainP L k (i+2))∧Below W.heap.size W W'):=fun W hA=>partsOf_any _ cap L _ e k (by omega) hsg hv ho hch he0 he1 he W hA
 have bhidden:((sgAt L (i+1)).toList == [104,105,100,100,101,110])=true:=hc
 have b40:((sgAt L i).toList == [40])=true:=ho
 obtain ⟨⟨x,hM,hS⟩,hA⟩:=id h
 obtain ⟨sb,off,rfl,hsc,hsm,hsz,hsn⟩:=hA.at (i:=i) (by omega) (by omega)
 obtain ⟨sb1,off1,hsa,hsc1,hsm1,hsz1,hsn1⟩:=hA.at (i:=i+1) (by omega) (by omega)
 injection hsa with hsa
 injection hsa with ea eb _
 subst ea eb
 have hc0:=hM.c0
 have hlow:=hM.low
 have hAT:=hA.arg
 obtain ⟨ii,hii⟩:∃ ii:Nat,i=(ii:Int):=⟨i.toNat,by omega⟩
 have hwr:IntKind.i64.wrap (i+1)=i+1:=IntWalk.i64_in _ (by omega)
 have hp0:(0:Int)≤i+1:=by omega
 have hp1:i+1 < (L.length:Int):=by omega
 have hq0:(0:Int)≤i:=by omega
 have hq1:i < (L.length:Int):=by omega
 clear hii hM hS hit hke
 generalize hg40:sgAt L i=s40 at hsc hsm b40
 generalize hg1:sgAt L (i+1)=s1 at hsc1 hsm1 bhidden
 clear hg40 hg1 hc ho
 go_enter Tryz.func120,Tryz.ntmps120
 go_wp2_with fail
 refine (HPP.out _ hAT).mono ?_
 rintro r w1 ⟨av,cv,rfl,hcv,hRN,hB1⟩
 have hSt1:=h.call hB1
 have hN1:=Nxt.of_below S hB1
 have hc01:=(hB1.cell (p:=⟨c,0,none⟩) (by obtain ⟨⟨x,hM,_⟩,_⟩:=h;exact hM.lt)).trans hc0
 have hsc11:=(hB1.cell (p:=⟨sb,off+(i+1).toNat,none⟩) hsz1).trans hsc1
 have hRI:=hRN.row (fun k hk=>(hlow k hk).2)
 clear hRN HPP hc0 hsc hsc1 h hAT hA hlow hB1
 clear hRI
 go_wp2
 go_end0
 exact ⟨rfl,S,U,hSt1,hN1,by omega⟩
set_option maxRecDepth 100000 in
set_option maxHeartbeats 8000000 in
theorem read_vars {a:Option Addr} {cap:Nat} {L:List ByteArray} {c n:Nat} (_hR:ReadC a cap L c n) (_hK:RBlkC a cap L c n) (hL:L.length≤2000) (hsg:signsB L=true) (S:Nat→Prop) (E:Blks) (lp:Bool) (F:Ot) (U:Nat) (i:Int) (w:World) (h:St S c a cap L E F U w) (hv:ItV L i) (ho:isW (sgAt L i) [40]=true) (hc:isW (sgAt L (i+1)) [118,97,114,115]=true) (_hn:2 * farN L i+1≤n+1) (_hE:E.length+(n+1)≤20000) (hU:(U:Int)≤i) :
  Calls Tryz.prog 120 #[.pointer (some ⟨c,0,none⟩),.int .i64 i,.bool lp] w fun r w'=>r=.returned (.tuple #[])∧∃ S' U',St S' c a cap L E (F.add (wk L (n+1) 0 false i (knE E lp))) U' w'∧Nxt S S' w w'∧(U':Int)≤itemE L i:=by
 have hends:=hv.ends
 obtain ⟨hit,k,e,hch,he0,he1,he,hie⟩:=hv.parts ho
 have hke:=chI_ends k _ hch he0
 have HW:Hid (wk L (n+1) 0 false i (knE E lp)=Ot.none):=itw_vars (wk L n) (knE E lp) ho hc
 have HF:Hid (F.add (wk L (n+1) 0 false i (knE E lp))=F):=(by rw [HW.out];exact Ot.add_none F:F.add (wk L (n+1) 0 false i (knE E lp))=F)
 rw [HF.out]
 clear HW HF
 have HPP:Hid (∀ W,ArgT W a L→Calls Tryz.prog 118 #[.slice a L.length cap,.int .i64 i] W fun r W'=>∃ av cv,r=.returned (.slice av k cv)∧k≤cv∧RowN W.heap.size W' av (chainP L k (i+2))∧Below W.heap.size W W'):=fun W hA=>partsOf_any _ cap L _ e k (by omega) hsg hv ho hch he0 he1 he W hA
 have bhidden:((sgAt L (i+1)).toList == [104,105,100,100,101,110])=false:=isW_other hc (by decide)
 have bvars:((sgAt L (i+1)).toList == [118,97,114,115])=true:=hc
 have b40:((sgAt L i).toList == [40])=true:=ho
 obtain ⟨⟨x,hM,hS⟩,hA⟩:=id h
 obtain ⟨sb,off,rfl,hsc,hsm,hsz,hsn⟩:=hA.at (i:=i) (by omega) (by omega)
 obtain ⟨sb1,off1,hsa,hsc1,hsm1,hsz1,hsn1⟩:=hA.at (i:=i+1) (by omega) (by omega)
 injection hsa with hsa
 injection hsa with ea eb _
 subst ea eb
 have hc0:=hM.c0
 have hlow:=hM.low
 have hAT:=hA.arg
 obtain ⟨ii,hii⟩:∃ ii:Nat,i=(ii:Int):=⟨i.toNat,by omega⟩
 have hwr:IntKind.i64.wrap (i+1)=i+1:=IntWalk.i64_in _ (by omega)
 have hp0:(0:Int)≤i+1:=by omega
 have hp1:i+1 < (L.length:Int):=by omega
 have hq0:(0:Int)≤i:=by omega
 have hq1:i < (L.length:Int):=by omega
 clear hii hM hS hit hke
 generalize hg40:sgAt L i=s40 at hsc hsm b40
 generalize hg1:sgAt L (i+1)=s1 at hsc1 hsm1 bhidden bvars
 clear hg40 hg1 hc ho
 go_enter Tryz.func120,Tryz.ntmps120
 go_wp2_with fail
 refine (HPP.out _ hAT).mono ?_
 rintro r w1 ⟨av,cv,rfl,hcv,hRN,hB1⟩
 have hSt1:=h.call hB1
 have hN1:=Nxt.of_below S hB1
 have hc01:=(hB1.cell (p:=⟨c,0,none⟩) (by obtain ⟨⟨x,hM,_⟩,_⟩:=h;exact hM.lt)).trans hc0
 have hsc11:=(hB1.cell (p:=⟨sb,off+(i+1).toNat,none⟩) hsz1).trans hsc1
 have hRI:=hRN.row (fun k hk=>(hlow k hk).2)
 clear hRN HPP hc0 hsc hsc1 h hAT hA hlow hB1
 clear hRI
 go_wp2
 go_end0
 exact ⟨rfl,S,U,hSt1,hN1,by omega⟩
set_option maxRecDepth 100000 in
set_option maxHeartbeats 8000000 in
theorem read_let {a:Option Addr} {cap:Nat} {L:List ByteArray} {c n:Nat} (hR:ReadC a cap L c n) (_hK:RBlkC a cap L c n) (hL:L.length≤2000) (hsg:signsB L=true) (S:Nat→Prop) (E:Blks) (lp:Bool) (F:Ot) (U:Nat) (i:Int) (w:World) (h:St S c a cap L E F U w) (hv:ItV L i) (ho:isW (sgAt L i) [40]=true) (hc:isW (sgAt L (i+1)) [108,101,116]=true) (hn:2 * farN L i+1≤n+1) (hE:E.length+(n+1)≤20000) (hU:(U:Int)≤i) :
  Calls Tryz.prog 120 #[.pointer (some ⟨c,0,none⟩),.int .i64 i,.bool lp] w fun r w'=>r=.returned (.tuple #[])∧∃ S' U',St S' c a cap L E (F.add (wk L (n+1) 0 false i (knE E lp))) U' w'∧Nxt S S' w w'∧(U':Int)≤itemE L i:=by
 have hends:=hv.ends
 obtain ⟨hit,k,e,hch,he0,he1,he,hie⟩:=hv.parts ho
 have hke:=chI_ends k _ hch he0
 have HW:Hid (wk L (n+1) 0 false i (knE E lp)=wk L n 0 false (i+3) (knE E lp)):=itw_let (wk L n) (knE E lp) ho hc
 obtain ⟨n1,n2,n3,n4⟩:=hv.name_sum ho _ hc (Or.inl rfl)
 have hx2:itemE L (i+2)=i+3:=by rw [item_one (by omega) (by omega) (nm_plain n1)];omega
 have n5:=n3.ends
 have hP:chainP L k (i+2)=(i+2) :: (i+3) :: chainP L (k - 2) (itemE L (i+3))∧2≤k:=by
  obtain ⟨k1,rfl,_,q1⟩:=chI_next hch (by omega)
  rw [hx2] at q1
  obtain ⟨k2,rfl,_,_⟩:=chI_next q1 (by omega)
  exact ⟨by rw [chainP_succ,hx2,chainP_succ];rfl,by omega⟩
 obtain ⟨hP1,hk2⟩:=hP
 have HP:Hid (chainP L k (i+2)=(i+2) :: (i+3) :: chainP L (k - 2) (itemE L (i+3))):=hP1
 clear hP1
 have hf:=farR_lt (L:=L) hends.1 (by omega:i < i+3) (by omega)
 have HC:Hid (∀ W,St S c a cap L E F U W→Calls Tryz.prog 120 #[.pointer (some ⟨c,0,none⟩),.int .i64 (i+3),.bool lp] W fun r w'=>r=.returned (.tuple #[])∧∃ S' U',St S' c a cap L E (F.add (wk L (n+1) 0 false i (knE E lp))) U' w'∧Nxt S S' W w'∧(U':Int)≤itemE L (i+3)):=fun W hW=>by
  rw [HW.out]
  exact hR S E lp F U (i+3) W hW n3 (by omega) (by omega) (by omega)
 have hk1:(1:Int) < (k:Int):=by omega
 clear HW n1 n3 hx2 hf
 have HPP:Hid (∀ W,ArgT W a L→Calls Tryz.prog 118 #[.slice a L.length cap,.int .i64 i] W fun r W'=>∃ av cv,r=.returned (.slice av k cv)∧k≤cv∧RowN W.heap.size W' av (chainP L k (i+2))∧Below W.heap.size W W'):=fun W hA=>partsOf_any _ cap L _ e k (by omega) hsg hv ho hch he0 he1 he W hA
 have bhidden:((sgAt L (i+1)).toList == [104,105,100,100,101,110])=false:=isW_other hc (by decide)
 have bvars:((sgAt L (i+1)).toList == [118,97,114,115])=false:=isW_other hc (by decide)
 have blet:((sgAt L (i+1)).toList == [108,101,116])=true:=hc
 have b40:((sgAt L i).toList == [40])=true:=ho
 obtain ⟨⟨x,hM,hS⟩,hA⟩:=id h
 obtain ⟨sb,off,rfl,hsc,hsm,hsz,hsn⟩:=hA.at (i:=i) (by omega) (by omega)
 obtain ⟨sb1,off1,hsa,hsc1,hsm1,hsz1,hsn1⟩:=hA.at (i:=i+1) (by omega) (by omega)
 injection hsa with hsa
 injection hsa with ea eb _
 subst ea eb
 have hc0:=hM.c0
 have hlow:=hM.low
 have hAT:=hA.arg
 obtain ⟨ii,hii⟩:∃ ii:Nat,i=(ii:Int):=⟨i.toNat,by omega⟩
 have hwr:IntKind.i64.wrap (i+1)=i+1:=IntWalk.i64_in _ (by omega)
 have hp0:(0:Int)≤i+1:=by omega
 have hp1:i+1 < (L.length:Int):=by omega
 have hq0:(0:Int)≤i:=by omega
 have hq1:i < (L.length:Int):=by omega
 clear hii hM hS hit hke
 generalize hg40:sgAt L i=s40 at hsc hsm b40
 generalize hg1:sgAt L (i+1)=s1 at hsc1 hsm1 bhidden bvars blet
 clear hg40 hg1 hc ho
 go_enter Tryz.func120,Tryz.ntmps120
 go_wp2_with fail
 refine (HPP.out _ hAT).mono ?_
 rintro r w1 ⟨av,cv,rfl,hcv,hRN,hB1⟩
 have hSt1:=h.call hB1
 have hN1:=Nxt.of_below S hB1
 have hc01:=(hB1.cell (p:=⟨c,0,none⟩) (by obtain ⟨⟨x,hM,_⟩,_⟩:=h;exact hM.lt)).trans hc0
 have hsc11:=(hB1.cell (p:=⟨sb,off+(i+1).toNat,none⟩) hsz1).trans hsc1
 have hRI:=hRN.row (fun k hk=>(hlow k hk).2)
 clear hRN HPP hc0 hsc hsc1 h hAT hA hlow hB1
 rw [HP.out] at hRI
 obtain ⟨g,og,rfl,_,_,hcell0⟩:=hRI 0 (by simp)
 have hcell1':w1.cell? ⟨g,og+1,none⟩=some (.int .i64 (i+3)):=by
  obtain ⟨gg,oo,hga,_,_,hgg⟩:=hRI 1 (by simp)
  injection hga with hga
  injection hga with e1 e2 _
  subst e1 e2
  exact hgg
 clear hRI hcell0 HP
 go_wp2_with fail
 refine (HC.out _ hSt1).mono ?_
 rintro r w2 ⟨rfl,S2,U2,hSt2,hN2,hU2⟩
 have hN:=hN1.trans hN2
 clear HC
 go_wp2
 go_end0
 exact ⟨rfl,S2,U2,hSt2,hN,by omega⟩
set_option maxRecDepth 100000 in
set_option maxHeartbeats 8000000 in
theorem read_take {a:Option Addr} {cap:Nat} {L:List ByteArray} {c n:Nat} (hR:ReadC a cap L c n) (_hK:RBlkC a cap L c n) (hL:L.length≤2000) (hsg:signsB L=true) (S:Nat→Prop) (E:Blks) (lp:Bool) (F:Ot) (U:Nat) (i:Int) (w:World) (h:St S c a cap L E F U w) (hv:ItV L i) (ho:isW (sgAt L i) [40]=true) (hc:isW (sgAt L (i+1)) [116,97,107,101]=true) (hn:2 * farN L i+1≤n+1) (hE:E.length+(n+1)≤20000) (hU:(U:Int)≤i) :
  Calls Tryz.prog 120 #[.pointer (some ⟨c,0,none⟩),.int .i64 i,.bool lp] w fun r w'=>r=.returned (.tuple #[])∧∃ S' U',St S' c a cap L E (F.add (wk L (n+1) 0 false i (knE E lp))) U' w'∧Nxt S S' w w'∧(U':Int)≤itemE L i:=by
 have hends:=hv.ends
 obtain ⟨hit,k,e,hch,he0,he1,he,hie⟩:=hv.parts ho
 have hke:=chI_ends k _ hch he0
 have HW:Hid (wk L (n+1) 0 false i (knE E lp)=wk L n 0 false (itemE L (i+2)) (knE E lp)):=itw_take (wk L n) (knE E lp) ho hc
 obtain ⟨n1,n2,n3,n4⟩:=hv.take_sum ho hc
 obtain ⟨y,hx2⟩:∃ y,itemE L (i+2)=y:=⟨_,rfl⟩
 rw [hx2] at n2 n3 n4 HW
 have n5:=n3.ends
 have hP:chainP L k (i+2)=(i+2) :: (y) :: chainP L (k - 2) (itemE L (y))∧2≤k:=by
  obtain ⟨k1,rfl,_,q1⟩:=chI_next hch (by omega)
  rw [hx2] at q1
  obtain ⟨k2,rfl,_,_⟩:=chI_next q1 (by omega)
  exact ⟨by rw [chainP_succ,hx2,chainP_succ];rfl,by omega⟩
 obtain ⟨hP1,hk2⟩:=hP
 have HP:Hid (chainP L k (i+2)=(i+2) :: (y) :: chainP L (k - 2) (itemE L (y))):=hP1
 clear hP1
 have hf:=farR_lt (L:=L) hends.1 (by omega:i < y) (by omega)
 have HC:Hid (∀ W,St S c a cap L E F U W→Calls Tryz.prog 120 #[.pointer (some ⟨c,0,none⟩),.int .i64 (y),.bool lp] W fun r w'=>r=.returned (.tuple #[])∧∃ S' U',St S' c a cap L E (F.add (wk L (n+1) 0 false i (knE E lp))) U' w'∧Nxt S S' W w'∧(U':Int)≤itemE L (y)):=fun W hW=>by
  rw [HW.out]
  exact hR S E lp F U (y) W hW n3 (by omega) (by omega) (by omega)
 have hk1:(1:Int) < (k:Int):=by omega
 clear HW n1 n3 hx2 hf
 have HPP:Hid (∀ W,ArgT W a L→Calls Tryz.prog 118 #[.slice a L.length cap,.int .i64 i] W fun r W'=>∃ av cv,r=.returned (.slice av k cv)∧k≤cv∧RowN W.heap.size W' av (chainP L k (i+2))∧Below W.heap.size W W'):=fun W hA=>partsOf_any _ cap L _ e k (by omega) hsg hv ho hch he0 he1 he W hA
 have bhidden:((sgAt L (i+1)).toList == [104,105,100,100,101,110])=false:=isW_other hc (by decide)
 have bvars:((sgAt L (i+1)).toList == [118,97,114,115])=false:=isW_other hc (by decide)
 have blet:((sgAt L (i+1)).toList == [108,101,116])=false:=isW_other hc (by decide)
 have btake:((sgAt L (i+1)).toList == [116,97,107,101])=true:=hc
 have b40:((sgAt L i).toList == [40])=true:=ho
 obtain ⟨⟨x,hM,hS⟩,hA⟩:=id h
 obtain ⟨sb,off,rfl,hsc,hsm,hsz,hsn⟩:=hA.at (i:=i) (by omega) (by omega)
 obtain ⟨sb1,off1,hsa,hsc1,hsm1,hsz1,hsn1⟩:=hA.at (i:=i+1) (by omega) (by omega)
 injection hsa with hsa
 injection hsa with ea eb _
 subst ea eb
 have hc0:=hM.c0
 have hlow:=hM.low
 have hAT:=hA.arg
 obtain ⟨ii,hii⟩:∃ ii:Nat,i=(ii:Int):=⟨i.toNat,by omega⟩
 have hwr:IntKind.i64.wrap (i+1)=i+1:=IntWalk.i64_in _ (by omega)
 have hp0:(0:Int)≤i+1:=by omega
 have hp1:i+1 < (L.length:Int):=by omega
 have hq0:(0:Int)≤i:=by omega
 have hq1:i < (L.length:Int):=by omega
 clear hii hM hS hit hke
 generalize hg40:sgAt L i=s40 at hsc hsm b40
 generalize hg1:sgAt L (i+1)=s1 at hsc1 hsm1 bhidden bvars blet btake
 clear hg40 hg1 hc ho
 go_enter Tryz.func120,Tryz.ntmps120
 go_wp2_with fail
 refine (HPP.out _ hAT).mono ?_
 rintro r w1 ⟨av,cv,rfl,hcv,hRN,hB1⟩
 have hSt1:=h.call hB1
 have hN1:=Nxt.of_below S hB1
 have hc01:=(hB1.cell (p:=⟨c,0,none⟩) (by obtain ⟨⟨x,hM,_⟩,_⟩:=h;exact hM.lt)).trans hc0
 have hsc11:=(hB1.cell (p:=⟨sb,off+(i+1).toNat,none⟩) hsz1).trans hsc1
 have hRI:=hRN.row (fun k hk=>(hlow k hk).2)
 clear hRN HPP hc0 hsc hsc1 h hAT hA hlow hB1
 rw [HP.out] at hRI
 obtain ⟨g,og,rfl,_,_,hcell0⟩:=hRI 0 (by simp)
 have hcell1':w1.cell? ⟨g,og+1,none⟩=some (.int .i64 (y)):=by
  obtain ⟨gg,oo,hga,_,_,hgg⟩:=hRI 1 (by simp)
  injection hga with hga
  injection hga with e1 e2 _
  subst e1 e2
  exact hgg
 clear hRI hcell0 HP
 go_wp2_with fail
 refine (HC.out _ hSt1).mono ?_
 rintro r w2 ⟨rfl,S2,U2,hSt2,hN2,hU2⟩
 have hN:=hN1.trans hN2
 clear HC
 go_wp2
 go_end0
 exact ⟨rfl,S2,U2,hSt2,hN,by omega⟩
set_option maxRecDepth 100000 in
set_option maxHeartbeats 8000000 in
theorem read_set {a:Option Addr} {cap:Nat} {L:List ByteArray} {c n:Nat} (hR:ReadC a cap L c n) (_hK:RBlkC a cap L c n) (hL:L.length≤2000) (hsg:signsB L=true) (S:Nat→Prop) (E:Blks) (lp:Bool) (F:Ot) (U:Nat) (i:Int) (w:World) (h:St S c a cap L E F U w) (hv:ItV L i) (ho:isW (sgAt L i) [40]=true) (hc:isW (sgAt L (i+1)) [115,101,116]=true) (hn:2 * farN L i+1≤n+1) (hE:E.length+(n+1)≤20000) (hU:(U:Int)≤i) :
  Calls Tryz.prog 120 #[.pointer (some ⟨c,0,none⟩),.int .i64 i,.bool lp] w fun r w'=>r=.returned (.tuple #[])∧∃ S' U',St S' c a cap L E (F.add (wk L (n+1) 0 false i (knE E lp))) U' w'∧Nxt S S' w w'∧(U':Int)≤itemE L i:=by
 have hends:=hv.ends
 obtain ⟨hit,k,e,hch,he0,he1,he,hie⟩:=hv.parts ho
 have hke:=chI_ends k _ hch he0
 have HW:Hid (wk L (n+1) 0 false i (knE E lp)=(useO L (knE E lp) (i+2)).add (wk L n 0 false (i+3) (knE E lp))):=itw_set (wk L n) (knE E lp) ho hc
 obtain ⟨n1,n2,n3,n4⟩:=hv.name_sum ho _ hc (Or.inr rfl)
 have hx2:itemE L (i+2)=i+3:=by rw [item_one (by omega) (by omega) (nm_plain n1)];omega
 have n5:=n3.ends
 have hP:chainP L k (i+2)=(i+2) :: (i+3) :: chainP L (k - 2) (itemE L (i+3))∧2≤k:=by
  obtain ⟨k1,rfl,_,q1⟩:=chI_next hch (by omega)
  rw [hx2] at q1
  obtain ⟨k2,rfl,_,_⟩:=chI_next q1 (by omega)
  exact ⟨by rw [chainP_succ,hx2,chainP_succ];rfl,by omega⟩
 obtain ⟨hP1,hk2⟩:=hP
 have HP:Hid (chainP L k (i+2)=(i+2) :: (i+3) :: chainP L (k - 2) (itemE L (i+3))):=hP1
 clear hP1
 have hf:=farR_lt (L:=L) hends.1 (by omega:i < i+3) (by omega)
 have HU1:Hid (∀ W,St S c a cap L E F U W→Calls Tryz.prog 143 #[.pointer (some ⟨c,0,none⟩),.int .i64 (i+2),.bool false] W fun e w'=>e=.returned (.tuple #[])∧∃ S',St S' c a cap L E (F.add (usO L false E (i+2))) (U+1) w'∧Nxt S S' W w'):=fun W hW=>use_any S c a cap L E F U (i+2) false W hW (by omega) n2 (by omega)
 have HC:Hid (∀ S1 W,St S1 c a cap L E (F.add (usO L false E (i+2))) (U+1) W→Calls Tryz.prog 120 #[.pointer (some ⟨c,0,none⟩),.int .i64 (i+3),.bool lp] W fun r w'=>r=.returned (.tuple #[])∧∃ S' U',St S' c a cap L E (F.add (wk L (n+1) 0 false i (knE E lp))) U' w'∧Nxt S1 S' W w'∧(U':Int)≤itemE L (i+3)):=fun S1 W hW=>by
  rw [HW.out,← usO_name L E lp,← Ot.add_assoc]
  exact hR S1 E lp _ (U+1) (i+3) W hW n3 (by omega) (by omega) (by omega)
 have hk1:(1:Int) < (k:Int):=by omega
 have hk0:(0:Int) < (k:Int):=by omega
 clear HW n1 n3 hx2 hf
 have HPP:Hid (∀ W,ArgT W a L→Calls Tryz.prog 118 #[.slice a L.length cap,.int .i64 i] W fun r W'=>∃ av cv,r=.returned (.slice av k cv)∧k≤cv∧RowN W.heap.size W' av (chainP L k (i+2))∧Below W.heap.size W W'):=fun W hA=>partsOf_any _ cap L _ e k (by omega) hsg hv ho hch he0 he1 he W hA
 have bhidden:((sgAt L (i+1)).toList == [104,105,100,100,101,110])=false:=isW_other hc (by decide)
 have bvars:((sgAt L (i+1)).toList == [118,97,114,115])=false:=isW_other hc (by decide)
 have blet:((sgAt L (i+1)).toList == [108,101,116])=false:=isW_other hc (by decide)
 have btake:((sgAt L (i+1)).toList == [116,97,107,101])=false:=isW_other hc (by decide)
 have bset:((sgAt L (i+1)).toList == [115,101,116])=true:=hc
 have b40:((sgAt L i).toList == [40])=true:=ho
 obtain ⟨⟨x,hM,hS⟩,hA⟩:=id h
 obtain ⟨sb,off,rfl,hsc,hsm,hsz,hsn⟩:=hA.at (i:=i) (by omega) (by omega)
 obtain ⟨sb1,off1,hsa,hsc1,hsm1,hsz1,hsn1⟩:=hA.at (i:=i+1) (by omega) (by omega)
 injection hsa with hsa
 injection hsa with ea eb _
 subst ea eb
 have hc0:=hM.c0
 have hlow:=hM.low
 have hAT:=hA.arg
 obtain ⟨ii,hii⟩:∃ ii:Nat,i=(ii:Int):=⟨i.toNat,by omega⟩
 have hwr:IntKind.i64.wrap (i+1)=i+1:=IntWalk.i64_in _ (by omega)
 have hp0:(0:Int)≤i+1:=by omega
 have hp1:i+1 < (L.length:Int):=by omega
 have hq0:(0:Int)≤i:=by omega
 have hq1:i < (L.length:Int):=by omega
 clear hii hM hS hit hke
 generalize hg40:sgAt L i=s40 at hsc hsm b40
 generalize hg1:sgAt L (i+1)=s1 at hsc1 hsm1 bhidden bvars blet btake bset
 clear hg40 hg1 hc ho
 go_enter Tryz.func120,Tryz.ntmps120
 go_wp2_with fail
 refine (HPP.out _ hAT).mono ?_
 rintro r w1 ⟨av,cv,rfl,hcv,hRN,hB1⟩
 have hSt1:=h.call hB1
 have hN1:=Nxt.of_below S hB1
 have hc01:=(hB1.cell (p:=⟨c,0,none⟩) (by obtain ⟨⟨x,hM,_⟩,_⟩:=h;exact hM.lt)).trans hc0
 have hsc11:=(hB1.cell (p:=⟨sb,off+(i+1).toNat,none⟩) hsz1).trans hsc1
 have hRI:=hRN.row (fun k hk=>(hlow k hk).2)
 clear hRN HPP hc0 hsc hsc1 h hAT hA hlow hB1
 rw [HP.out] at hRI
 obtain ⟨g,og,rfl,_,_,hcell0⟩:=hRI 0 (by simp)
 have hcell0':w1.cell? ⟨g,og,none⟩=some (.int .i64 (i+2)):=hcell0
 clear hcell0
 go_wp2_with fail
 refine (HU1.out _ hSt1).mono ?_
 rintro r w2 ⟨rfl,S2,hSt2,hN2⟩
 have hR2:=hRI.nxt hN2
 have hN:=hN1.trans hN2
 have hcell1':w2.cell? ⟨g,og+1,none⟩=some (.int .i64 (i+3)):=by
  obtain ⟨gg,oo,hga,_,_,hgg⟩:=hR2 1 (by simp)
  injection hga with hga
  injection hga with e1 e2 _
  subst e1 e2
  exact hgg
 clear hRI hR2 HP HU1 hcell0'
 go_wp2_with fail
 refine (HC.out _ _ hSt2).mono ?_
 rintro r w3 ⟨rfl,S3,U3,hSt3,hN3,hU3⟩
 have hNN:=hN.trans hN3
 clear HC
 go_wp2
 go_end0
 exact ⟨rfl,S3,U3,hSt3,hNN,by omega⟩
set_option maxRecDepth 100000 in
set_option maxHeartbeats 8000000 in
theorem read_while {a:Option Addr} {cap:Nat} {L:List ByteArray} {c n:Nat} (hR:ReadC a cap L c n) (_hK:RBlkC a cap L c n) (hL:L.length≤2000) (hsg:signsB L=true) (S:Nat→Prop) (E:Blks) (lp:Bool) (F:Ot) (U:Nat) (i:Int) (w:World) (h:St S c a cap L E F U w) (hv:ItV L i) (ho:isW (sgAt L i) [40]=true) (hc:isW (sgAt L (i+1)) [119,104,105,108,101]=true) (hn:2 * farN L i+1≤n+1) (hE:E.length+(n+1)≤20000) (hU:(U:Int)≤i) :
  Calls Tryz.prog 120 #[.pointer (some ⟨c,0,none⟩),.int .i64 i,.bool lp] w fun r w'=>r=.returned (.tuple #[])∧∃ S' U',St S' c a cap L E (F.add (wk L (n+1) 0 false i (knE E lp))) U' w'∧Nxt S S' w w'∧(U':Int)≤itemE L i:=by
 have hends:=hv.ends
 obtain ⟨hit,k,e,hch,he0,he1,he,hie⟩:=hv.parts ho
 have hke:=chI_ends k _ hch he0
 have HW:Hid (wk L (n+1) 0 false i (knE E lp)=(wk L n 0 false (i+2) (knE E lp)).add (wk L n 0 false (itemE L (i+2)) (inLoop (knE E lp) true))):=itw_while (wk L n) (knE E lp) ho hc
 obtain ⟨n1,n2,n3⟩:=hv.sum_deed ho hc
 have n4:=n1.ends
 obtain ⟨y,hx2⟩:∃ y,itemE L (i+2)=y:=⟨_,rfl⟩
 rw [hx2] at n2 n3 n4 HW
 have n5:=n2.ends
 have hP:chainP L k (i+2)=(i+2) :: (y) :: chainP L (k - 2) (itemE L (y))∧2≤k:=by
  obtain ⟨k1,rfl,_,q1⟩:=chI_next hch (by omega)
  rw [hx2] at q1
  obtain ⟨k2,rfl,_,_⟩:=chI_next q1 (by omega)
  exact ⟨by rw [chainP_succ,hx2,chainP_succ];rfl,by omega⟩
 obtain ⟨hP1,hk2⟩:=hP
 have HP:Hid (chainP L k (i+2)=(i+2) :: (y) :: chainP L (k - 2) (itemE L (y))):=hP1
 clear hP1
 have hf:=farR_lt (L:=L) hends.1 (by omega:i < i+2) (by omega)
 have hf2:=farR_lt (L:=L) hends.1 (by omega:i < y) (by omega)
 have HU1:Hid (∀ W,St S c a cap L E F U W→Calls Tryz.prog 120 #[.pointer (some ⟨c,0,none⟩),.int .i64 (i+2),.bool lp] W fun r w'=>r=.returned (.tuple #[])∧∃ S' U',St S' c a cap L E (F.add (wk L n 0 false (i+2) (knE E lp))) U' w'∧Nxt S S' W w'∧(U':Int)≤y):=fun W hW=>by
  rw [← hx2]
  exact hR S E lp F U (i+2) W hW n1 (by omega) (by omega) (by omega)
 have HC:Hid (∀ (S1:Nat→Prop) (U1:Nat) (W:World),(U1:Int)≤y→St S1 c a cap L E (F.add (wk L n 0 false (i+2) (knE E lp))) U1 W→Calls Tryz.prog 120 #[.pointer (some ⟨c,0,none⟩),.int .i64 y,.bool true] W fun r w'=>r=.returned (.tuple #[])∧∃ S' U',St S' c a cap L E (F.add (wk L (n+1) 0 false i (knE E lp))) U' w'∧Nxt S1 S' W w'∧(U':Int)≤itemE L y):=fun S1 U1 W hU1 hW=>by
  rw [HW.out,← Ot.add_assoc]
  exact hR S1 E true _ U1 y W hW n2 (by omega) (by omega) hU1
 have hk1:(1:Int) < (k:Int):=by omega
 have hk0:(0:Int) < (k:Int):=by omega
 clear HW n1 n2 hx2 hf hf2
 have HPP:Hid (∀ W,ArgT W a L→Calls Tryz.prog 118 #[.slice a L.length cap,.int .i64 i] W fun r W'=>∃ av cv,r=.returned (.slice av k cv)∧k≤cv∧RowN W.heap.size W' av (chainP L k (i+2))∧Below W.heap.size W W'):=fun W hA=>partsOf_any _ cap L _ e k (by omega) hsg hv ho hch he0 he1 he W hA
 have bhidden:((sgAt L (i+1)).toList == [104,105,100,100,101,110])=false:=isW_other hc (by decide)
 have bvars:((sgAt L (i+1)).toList == [118,97,114,115])=false:=isW_other hc (by decide)
 have blet:((sgAt L (i+1)).toList == [108,101,116])=false:=isW_other hc (by decide)
 have btake:((sgAt L (i+1)).toList == [116,97,107,101])=false:=isW_other hc (by decide)
 have bset:((sgAt L (i+1)).toList == [115,101,116])=false:=isW_other hc (by decide)
 have bhget:((sgAt L (i+1)).toList == [104,103,101,116])=false:=isW_other hc (by decide)
 have bhput:((sgAt L (i+1)).toList == [104,112,117,116])=false:=isW_other hc (by decide)
 have bfn:((sgAt L (i+1)).toList == [102,110])=false:=isW_other hc (by decide)
 have bdo:((sgAt L (i+1)).toList == [100,111])=false:=isW_other hc (by decide)
 have bwhile:((sgAt L (i+1)).toList == [119,104,105,108,101])=true:=hc
 have b40:((sgAt L i).toList == [40])=true:=ho
 obtain ⟨⟨x,hM,hS⟩,hA⟩:=id h
 obtain ⟨sb,off,rfl,hsc,hsm,hsz,hsn⟩:=hA.at (i:=i) (by omega) (by omega)
 obtain ⟨sb1,off1,hsa,hsc1,hsm1,hsz1,hsn1⟩:=hA.at (i:=i+1) (by omega) (by omega)
 injection hsa with hsa
 injection hsa with ea eb _
 subst ea eb
 have hc0:=hM.c0
 have hlow:=hM.low
 have hAT:=hA.arg
 obtain ⟨ii,hii⟩:∃ ii:Nat,i=(ii:Int):=⟨i.toNat,by omega⟩
 have hwr:IntKind.i64.wrap (i+1)=i+1:=IntWalk.i64_in _ (by omega)
 have hp0:(0:Int)≤i+1:=by omega
 have hp1:i+1 < (L.length:Int):=by omega
 have hq0:(0:Int)≤i:=by omega
 have hq1:i < (L.length:Int):=by omega
 clear hii hM hS hit hke
 generalize hg40:sgAt L i=s40 at hsc hsm b40
 generalize hg1:sgAt L (i+1)=s1 at hsc1 hsm1 bhidden bvars blet btake bset bhget bhput bfn bdo bwhile
 clear hg40 hg1 hc ho
 go_enter Tryz.func120,Tryz.ntmps120
 go_wp2_with fail
 refine (HPP.out _ hAT).mono ?_
 rintro r w1 ⟨av,cv,rfl,hcv,hRN,hB1⟩
 have hSt1:=h.call hB1
 have hN1:=Nxt.of_below S hB1
 have hc01:=(hB1.cell (p:=⟨c,0,none⟩) (by obtain ⟨⟨x,hM,_⟩,_⟩:=h;exact hM.lt)).trans hc0
 have hsc11:=(hB1.cell (p:=⟨sb,off+(i+1).toNat,none⟩) hsz1).trans hsc1
 have hRI:=hRN.row (fun k hk=>(hlow k hk).2)
 clear hRN HPP hc0 hsc hsc1 h hAT hA hlow hB1
 rw [HP.out] at hRI
 obtain ⟨g,og,rfl,_,_,hcell0⟩:=hRI 0 (by simp)
 have hcell0':w1.cell? ⟨g,og,none⟩=some (.int .i64 (i+2)):=hcell0
 clear hcell0
 go_wp2_with fail
 refine (HU1.out _ hSt1).mono ?_
 rintro r w2 ⟨rfl,S2,U2,hSt2,hN2,hU2⟩
 have hR2:=hRI.nxt hN2
 have hN:=hN1.trans hN2
 have hcell1':w2.cell? ⟨g,og+1,none⟩=some (.int .i64 y):=by
  obtain ⟨gg,oo,hga,_,_,hgg⟩:=hR2 1 (by simp)
  injection hga with hga
  injection hga with e1 e2 _
  subst e1 e2
  exact hgg
 clear hRI hR2 HP HU1 hcell0'
 go_wp2_with fail
 refine (HC.out _ _ _ hU2 hSt2).mono ?_
 rintro r w3 ⟨rfl,S3,U3,hSt3,hN3,hU3⟩
 have hNN:=hN.trans hN3
 clear HC
 go_wp2
 go_end0
 exact ⟨rfl,S3,U3,hSt3,hNN,by omega⟩
set_option maxRecDepth 100000 in
set_option maxHeartbeats 8000000 in
theorem read_do {a:Option Addr} {cap:Nat} {L:List ByteArray} {c n:Nat} (_hR:ReadC a cap L c n) (hK:RBlkC a cap L c n) (hL:L.length≤2000) (hsg:signsB L=true) (S:Nat→Prop) (E:Blks) (lp:Bool) (F:Ot) (U:Nat) (i:Int) (w:World) (h:St S c a cap L E F U w) (hv:ItV L i) (ho:isW (sgAt L i) [40]=true) (hc:isW (sgAt L (i+1)) [100,111]=true) (hn:2 * farN L i+1≤n+1) (hE:E.length+(n+1)≤20000) (hU:(U:Int)≤i) :
  Calls Tryz.prog 120 #[.pointer (some ⟨c,0,none⟩),.int .i64 i,.bool lp] w fun r w'=>r=.returned (.tuple #[])∧∃ S' U',St S' c a cap L E (F.add (wk L (n+1) 0 false i (knE E lp))) U' w'∧Nxt S S' w w'∧(U':Int)≤itemE L i:=by
 have hends:=hv.ends
 obtain ⟨hit,k,e,hch,he0,he1,he,hie⟩:=hv.parts ho
 have hke:=chI_ends k _ hch he0
 have HW:Hid (wk L (n+1) 0 false i (knE E lp)=wk L n 1 false (i+2) (knE E lp)):=itw_do (wk L n) (knE E lp) ho hc
 obtain ⟨k',e',n1,n2,n3⟩:=hv.deeds ho hc
 have hee:e=e':=by omega
 subst hee
 have hkk:=(chI_one _ _ _ hch (chI_V k' _ (chain_deeds k' _ n1).1) (itemE_none (Or.inr (Or.inr he))) (itemE_none (Or.inr (Or.inr he)))).1
 subst hkk
 have hf:=farR_lt (L:=L) hends.1 (by omega:i < i+2) (by omega)
 have HC:Hid (∀ ad cd W,St S c a cap L E F U W→RowI S W ad (chainP L k (i+2))→Calls Tryz.prog 42 #[.pointer (some ⟨c,0,none⟩),.slice ad k cd,.bool false,.bool lp] W fun r w'=>r=.returned (.tuple #[])∧∃ S' U',St S' c a cap L E (F.add (wk L (n+1) 0 false i (knE E lp))) U' w'∧Nxt S S' W w'∧(U':Int)≤e):=fun ad cd W hW hX=>by
  rw [HW.out]
  exact hK S E lp false F U (i+2) e k ad cd W hW hX n1 (Or.inr he) he0 (by omega) (by omega) (by omega) (by omega)
 clear HW n1 n2 n3 hf
 have HPP:Hid (∀ W,ArgT W a L→Calls Tryz.prog 118 #[.slice a L.length cap,.int .i64 i] W fun r W'=>∃ av cv,r=.returned (.slice av k cv)∧k≤cv∧RowN W.heap.size W' av (chainP L k (i+2))∧Below W.heap.size W W'):=fun W hA=>partsOf_any _ cap L _ e k (by omega) hsg hv ho hch he0 he1 he W hA
 have bhidden:((sgAt L (i+1)).toList == [104,105,100,100,101,110])=false:=isW_other hc (by decide)
 have bvars:((sgAt L (i+1)).toList == [118,97,114,115])=false:=isW_other hc (by decide)
 have blet:((sgAt L (i+1)).toList == [108,101,116])=false:=isW_other hc (by decide)
 have btake:((sgAt L (i+1)).toList == [116,97,107,101])=false:=isW_other hc (by decide)
 have bset:((sgAt L (i+1)).toList == [115,101,116])=false:=isW_other hc (by decide)
 have bhget:((sgAt L (i+1)).toList == [104,103,101,116])=false:=isW_other hc (by decide)
 have bhput:((sgAt L (i+1)).toList == [104,112,117,116])=false:=isW_other hc (by decide)
 have bfn:((sgAt L (i+1)).toList == [102,110])=false:=isW_other hc (by decide)
 have bdo:((sgAt L (i+1)).toList == [100,111])=true:=hc
 have b40:((sgAt L i).toList == [40])=true:=ho
 obtain ⟨⟨x,hM,hS⟩,hA⟩:=id h
 obtain ⟨sb,off,rfl,hsc,hsm,hsz,hsn⟩:=hA.at (i:=i) (by omega) (by omega)
 obtain ⟨sb1,off1,hsa,hsc1,hsm1,hsz1,hsn1⟩:=hA.at (i:=i+1) (by omega) (by omega)
 injection hsa with hsa
 injection hsa with ea eb _
 subst ea eb
 have hc0:=hM.c0
 have hlow:=hM.low
 have hAT:=hA.arg
 obtain ⟨ii,hii⟩:∃ ii:Nat,i=(ii:Int):=⟨i.toNat,by omega⟩
 have hwr:IntKind.i64.wrap (i+1)=i+1:=IntWalk.i64_in _ (by omega)
 have hp0:(0:Int)≤i+1:=by omega
 have hp1:i+1 < (L.length:Int):=by omega
 have hq0:(0:Int)≤i:=by omega
 have hq1:i < (L.length:Int):=by omega
 clear hii hM hS hit hke
 generalize hg40:sgAt L i=s40 at hsc hsm b40
 generalize hg1:sgAt L (i+1)=s1 at hsc1 hsm1 bhidden bvars blet btake bset bhget bhput bfn bdo
 clear hg40 hg1 hc ho
 go_enter Tryz.func120,Tryz.ntmps120
 go_wp2_with fail
 refine (HPP.out _ hAT).mono ?_
 rintro r w1 ⟨av,cv,rfl,hcv,hRN,hB1⟩
 have hSt1:=h.call hB1
 have hN1:=Nxt.of_below S hB1
 have hc01:=(hB1.cell (p:=⟨c,0,none⟩) (by obtain ⟨⟨x,hM,_⟩,_⟩:=h;exact hM.lt)).trans hc0
 have hsc11:=(hB1.cell (p:=⟨sb,off+(i+1).toNat,none⟩) hsz1).trans hsc1
 have hRI:=hRN.row (fun k hk=>(hlow k hk).2)
 clear hRN HPP hc0 hsc hsc1 h hAT hA hlow hB1
 go_wp2_with fail
 refine (HC.out _ _ _ hSt1 hRI).mono ?_
 rintro r w2 ⟨rfl,S2,U2,hSt2,hN2,hU2⟩
 have hN:=hN1.trans hN2
 clear HC
 go_wp2
 go_end0
 exact ⟨rfl,S2,U2,hSt2,hN,by omega⟩
set_option maxRecDepth 100000 in
set_option maxHeartbeats 8000000 in
theorem read_rest {a:Option Addr} {cap:Nat} {L:List ByteArray} {c n:Nat} (hR:ReadC a cap L c n) (_hK:RBlkC a cap L c n) (hL:L.length≤2000) (hsg:signsB L=true) (S:Nat→Prop) (E:Blks) (lp:Bool) (F:Ot) (U:Nat) (i:Int) (w:World) (h:St S c a cap L E F U w) (hv:ItV L i) (ho:isW (sgAt L i) [40]=true) (hhidden:isW (sgAt L (i+1)) [104,105,100,100,101,110]=false) (hvars:isW (sgAt L (i+1)) [118,97,114,115]=false) (hlet:isW (sgAt L (i+1)) [108,101,116]=false) (htake:isW (sgAt L (i+1)) [116,97,107,101]=false) (hset:isW (sgAt L (i+1)) [115,101,116]=false) (hhget:isW (sgAt L (i+1)) [104,103,101,116]=false) (hhput:isW (sgAt L (i+1)) [104,112,117,116]=false) (hfn:isW (sgAt L (i+1)) [102,110]=false) (hdo:isW (sgAt L (i+1)) [100,111]=false) (hwhile:isW (sgAt L (i+1)) [119,104,105,108,101]=false) (hfor:isW (sgAt L (i+1)) [102,111,114]=false) (hleave:isW (sgAt L (i+1)) [108,101,97,118,101]=false) (hnext:isW (sgAt L (i+1)) [110,101,120,116]=false) (hn:2 * farN L i+1≤n+1) (hE:E.length+(n+1)≤20000) (hU:(U:Int)≤i) :
  Calls Tryz.prog 120 #[.pointer (some ⟨c,0,none⟩),.int .i64 i,.bool lp] w fun r w'=>r=.returned (.tuple #[])∧∃ S' U',St S' c a cap L E (F.add (wk L (n+1) 0 false i (knE E lp))) U' w'∧Nxt S S' w w'∧(U':Int)≤itemE L i:=by
 have hends:=hv.ends
 obtain ⟨hit,k,e,hch,he0,he1,he,hie⟩:=hv.parts ho
 have hke:=chI_ends k _ hch he0
 have HW:Hid (wk L (n+1) 0 false i (knE E lp)=itemO L (wk L n) i (knE E lp)):=(rfl:wk L (n+1) 0 false i (knE E lp)=itemO L (wk L n) i (knE E lp))
 have HW2:=itw_rest (wk L n) (knE E lp) ho hhidden hvars hlet htake hset hhget hhput hfn hdo hwhile hfor hleave hnext
 obtain ⟨k',e',n1,n2,n3⟩:=hv.items ho hfn hdo hlet hset htake hhget hhput hhidden hvars hfor
 have hee:e=e':=by omega
 subst hee
 have hkk:=(chI_one _ _ _ hch (chI_V k' _ n1) (itemE_none (Or.inr (Or.inr he))) (itemE_none (Or.inr (Or.inr he)))).1
 subst hkk
 have hf:=farR_lt (L:=L) hends.1 (by omega:i < i+2) (by omega)
 have hup:=upL_chain k _ n1
 have hpl:=plc_chain n1 he0 (by omega) (Or.inr he)
 have hkb:=chI_ends k _ hch he0
 have hcl:=chP_len L k (i+2)
 have HC:Hid (∀ ad cd W,St S c a cap L E F U W→RowI S W ad (chainP L k (i+2))→Calls Tryz.prog 88 #[.pointer (some ⟨c,0,none⟩),.slice ad k cd,.bool lp] W fun r w'=>r=.returned (.tuple #[])∧∃ S' U',St S' c a cap L E (F.add (wk L (n+1) 0 false i (knE E lp))) U' w'∧Nxt S S' W w'∧(U':Int)≤e):=fun ad cd W hW hX=>by
  rw [HW.out,HW2,hpl]
  exact readAll_any hR S E lp F U (i+2) e (chainP L k (i+2)) ad k cd W hcl.symm hW hX hup (by omega) (by rw [hcl];omega) (by omega) (by omega) (by omega)
 clear HW HW2 n1 n2 n3 hf hup hpl hkb hcl
 have HPP:Hid (∀ W,ArgT W a L→Calls Tryz.prog 118 #[.slice a L.length cap,.int .i64 i] W fun r W'=>∃ av cv,r=.returned (.slice av k cv)∧k≤cv∧RowN W.heap.size W' av (chainP L k (i+2))∧Below W.heap.size W W'):=fun W hA=>partsOf_any _ cap L _ e k (by omega) hsg hv ho hch he0 he1 he W hA
 have bhidden:((sgAt L (i+1)).toList == [104,105,100,100,101,110])=false:=hhidden
 have bvars:((sgAt L (i+1)).toList == [118,97,114,115])=false:=hvars
 have blet:((sgAt L (i+1)).toList == [108,101,116])=false:=hlet
 have btake:((sgAt L (i+1)).toList == [116,97,107,101])=false:=htake
 have bset:((sgAt L (i+1)).toList == [115,101,116])=false:=hset
 have bhget:((sgAt L (i+1)).toList == [104,103,101,116])=false:=hhget
 have bhput:((sgAt L (i+1)).toList == [104,112,117,116])=false:=hhput
 have bfn:((sgAt L (i+1)).toList == [102,110])=false:=hfn
 have bdo:((sgAt L (i+1)).toList == [100,111])=false:=hdo
 have bwhile:((sgAt L (i+1)).toList == [119,104,105,108,101])=false:=hwhile
 have bfor:((sgAt L (i+1)).toList == [102,111,114])=false:=hfor
 have bleave:((sgAt L (i+1)).toList == [108,101,97,118,101])=false:=hleave
 have bnext:((sgAt L (i+1)).toList == [110,101,120,116])=false:=hnext
 have b40:((sgAt L i).toList == [40])=true:=ho
 obtain ⟨⟨x,hM,hS⟩,hA⟩:=id h
 obtain ⟨sb,off,rfl,hsc,hsm,hsz,hsn⟩:=hA.at (i:=i) (by omega) (by omega)
 obtain ⟨sb1,off1,hsa,hsc1,hsm1,hsz1,hsn1⟩:=hA.at (i:=i+1) (by omega) (by omega)
 injection hsa with hsa
 injection hsa with ea eb _
 subst ea eb
 have hc0:=hM.c0
 have hlow:=hM.low
 have hAT:=hA.arg
 obtain ⟨ii,hii⟩:∃ ii:Nat,i=(ii:Int):=⟨i.toNat,by omega⟩
 have hwr:IntKind.i64.wrap (i+1)=i+1:=IntWalk.i64_in _ (by omega)
 have hp0:(0:Int)≤i+1:=by omega
 have hp1:i+1 < (L.length:Int):=by omega
 have hq0:(0:Int)≤i:=by omega
 have hq1:i < (L.length:Int):=by omega
 clear hii hM hS hit hke
 generalize hg40:sgAt L i=s40 at hsc hsm b40
 generalize hg1:sgAt L (i+1)=s1 at hsc1 hsm1 bhidden bvars blet btake bset bhget bhput bfn bdo bwhile bfor bleave bnext
 clear hg40 hg1 ho hhidden hvars hlet htake hset hhget hhput hfn hdo hwhile hfor hleave hnext
 go_enter Tryz.func120,Tryz.ntmps120
 go_wp2_with fail
 refine (HPP.out _ hAT).mono ?_
 rintro r w1 ⟨av,cv,rfl,hcv,hRN,hB1⟩
 have hSt1:=h.call hB1
 have hN1:=Nxt.of_below S hB1
 have hc01:=(hB1.cell (p:=⟨c,0,none⟩) (by obtain ⟨⟨x,hM,_⟩,_⟩:=h;exact hM.lt)).trans hc0
 have hsc11:=(hB1.cell (p:=⟨sb,off+(i+1).toNat,none⟩) hsz1).trans hsc1
 have hRI:=hRN.row (fun k hk=>(hlow k hk).2)
 clear hRN HPP hc0 hsc hsc1 h hAT hA hlow hB1
 go_wp2_with fail
 refine (HC.out _ _ _ hSt1 hRI).mono ?_
 rintro r w2 ⟨rfl,S2,U2,hSt2,hN2,hU2⟩
 have hN:=hN1.trans hN2
 clear HC
 go_wp2
 go_end0
 exact ⟨rfl,S2,U2,hSt2,hN,by omega⟩
end Q
end Go.Proofs.YtdgihicpjonjgaaGreatDoor
namespace Go.Proofs.YtdgihicpjonjgaaGreatDoor
open Go.RowKit
namespace Q
set_option maxRecDepth 100000 in
set_option maxHeartbeats 8000000 in
theorem read_hget {a:Option Addr} {cap:Nat} {L:List ByteArray} {c n:Nat} (hR:ReadC a cap L c n) (_hK:RBlkC a cap L c n) (hL:L.length≤2000) (hsg:signsB L=true) (S:Nat→Prop) (E:Blks) (lp:Bool) (F:Ot) (U:Nat) (i:Int) (w:World) (h:St S c a cap L E F U w) (hv:ItV L i) (ho:isW (sgAt L i) [40]=true) (hc:isW (sgAt L (i+1)) [104,103,101,116]=true) (hn:2 * farN L i+1≤n+1) (hE:E.length+(n+1)≤20000) (hU:(U:Int)≤i) :
  Calls Tryz.prog 120 #[.pointer (some ⟨c,0,none⟩),.int .i64 i,.bool lp] w fun r w'=>r=.returned (.tuple #[])∧∃ S' U',St S' c a cap L E (F.add (wk L (n+1) 0 false i (knE E lp))) U' w'∧Nxt S S' w w'∧(U':Int)≤itemE L i:=by
 have hends:=hv.ends
 obtain ⟨hit,k,e,hch,he0,he1,he,hie⟩:=hv.parts ho
 have hke:=chI_ends k _ hch he0
 have HW:Hid (wk L (n+1) 0 false i (knE E lp)=(hideO L (knE E lp) (i+2)).add (outs (fun p=>wk L n 0 false p (knE E lp)) (plc L (i+3)))):=itw_hget (wk L n) (knE E lp) ho hc
 obtain ⟨n1,n2,k',e',n3,n4,n5⟩:=hv.name_sums ho _ hc (Or.inl rfl)
 have hee:e=e':=by omega
 subst hee
 have hx2:itemE L (i+2)=i+3:=by rw [item_one (by omega) (by omega) (nm_plain n2)];omega
 have hce:=chainV_ends k' _ n3 he0
 have hkk:k=k'+1:=by
  obtain ⟨k1,rfl,_,q1⟩:=chI_next hch (by omega)
  rw [hx2] at q1
  rw [(chI_one _ _ _ q1 (chI_V k' _ n3) (itemE_none (Or.inr (Or.inr he))) (itemE_none (Or.inr (Or.inr he)))).1]
 subst hkk
 have HP:Hid (chainP L (k'+1) (i+2)=(i+2) :: chainP L k' (i+3)):=(by rw [chainP_succ,hx2]:chainP L (k'+1) (i+2)=(i+2) :: chainP L k' (i+3))
 have hf:=farR_lt (L:=L) hends.1 (by omega:i < i+3) (by omega)
 have hup:=upL_chain k' _ n3
 have hpl:=plc_chain n3 he0 (by omega) (Or.inr he)
 have hcl:=chP_len L k' (i+3)
 have HU1:Hid (∀ W,St S c a cap L E F U W→Calls Tryz.prog 143 #[.pointer (some ⟨c,0,none⟩),.int .i64 (i+2),.bool true] W fun e w'=>e=.returned (.tuple #[])∧∃ S',St S' c a cap L E (F.add (usO L true E (i+2))) (U+1) w'∧Nxt S S' W w'):=fun W hW=>use_any S c a cap L E F U (i+2) true W hW (by omega) n1 (by omega)
 have HC:Hid (∀ (S1:Nat→Prop) ad cd W,St S1 c a cap L E (F.add (usO L true E (i+2))) (U+1) W→RowI S1 W ad (chainP L k' (i+3))→Calls Tryz.prog 88 #[.pointer (some ⟨c,0,none⟩),.slice ad k' cd,.bool lp] W fun r w'=>r=.returned (.tuple #[])∧∃ S' U',St S' c a cap L E (F.add (wk L (n+1) 0 false i (knE E lp))) U' w'∧Nxt S1 S' W w'∧(U':Int)≤e):=fun S1 ad cd W hW hX=>by
  rw [HW.out,← usO_hide L E lp,← Ot.add_assoc,hpl]
  exact readAll_any hR S1 E lp _ (U+1) (i+3) e (chainP L k' (i+3)) ad k' cd W hcl.symm hW hX hup (by omega) (by rw [hcl];omega) (by omega) (by omega) (by omega)
 have hk0:(0:Int) < ((k'+1:Nat):Int):=by omega
 have hk1:(1:Int)≤((k'+1:Nat):Int):=by omega
 clear HW n2 n3 n4 n5 hf hup hpl hx2 hce
 have HPP:Hid (∀ W,ArgT W a L→Calls Tryz.prog 118 #[.slice a L.length cap,.int .i64 i] W fun r W'=>∃ av cv,r=.returned (.slice av (k'+1) cv)∧k'+1≤cv∧RowN W.heap.size W' av (chainP L (k'+1) (i+2))∧Below W.heap.size W W'):=fun W hA=>partsOf_any _ cap L _ e (k'+1) (by omega) hsg hv ho hch he0 he1 he W hA
 have bhidden:((sgAt L (i+1)).toList == [104,105,100,100,101,110])=false:=isW_other hc (by decide)
 have bvars:((sgAt L (i+1)).toList == [118,97,114,115])=false:=isW_other hc (by decide)
 have blet:((sgAt L (i+1)).toList == [108,101,116])=false:=isW_other hc (by decide)
 have btake:((sgAt L (i+1)).toList == [116,97,107,101])=false:=isW_other hc (by decide)
 have bset:((sgAt L (i+1)).toList == [115,101,116])=false:=isW_other hc (by decide)
 have bhget:((sgAt L (i+1)).toList == [104,103,101,116])=true:=hc
 have b40:((sgAt L i).toList == [40])=true:=ho
 obtain ⟨⟨x,hM,hS⟩,hA⟩:=id h
 obtain ⟨sb,off,rfl,hsc,hsm,hsz,hsn⟩:=hA.at (i:=i) (by omega) (by omega)
 obtain ⟨sb1,off1,hsa,hsc1,hsm1,hsz1,hsn1⟩:=hA.at (i:=i+1) (by omega) (by omega)
 injection hsa with hsa
 injection hsa with ea eb _
 subst ea eb
 have hc0:=hM.c0
 have hlow:=hM.low
 have hAT:=hA.arg
 obtain ⟨ii,hii⟩:∃ ii:Nat,i=(ii:Int):=⟨i.toNat,by omega⟩
 have hwr:IntKind.i64.wrap (i+1)=i+1:=IntWalk.i64_in _ (by omega)
 have hp0:(0:Int)≤i+1:=by omega
 have hp1:i+1 < (L.length:Int):=by omega
 have hq0:(0:Int)≤i:=by omega
 have hq1:i < (L.length:Int):=by omega
 clear hii hM hS hit hke
 generalize hg40:sgAt L i=s40 at hsc hsm b40
 generalize hg1:sgAt L (i+1)=s1 at hsc1 hsm1 bhidden bvars blet btake bset bhget
 clear hg40 hg1 hc ho
 go_enter Tryz.func120,Tryz.ntmps120
 go_wp2_with fail
 refine (HPP.out _ hAT).mono ?_
 rintro r w1 ⟨av,cv,rfl,hcv,hRN,hB1⟩
 have hSt1:=h.call hB1
 have hN1:=Nxt.of_below S hB1
 have hc01:=(hB1.cell (p:=⟨c,0,none⟩) (by obtain ⟨⟨x,hM,_⟩,_⟩:=h;exact hM.lt)).trans hc0
 have hsc11:=(hB1.cell (p:=⟨sb,off+(i+1).toNat,none⟩) hsz1).trans hsc1
 have hRI:=hRN.row (fun k hk=>(hlow k hk).2)
 clear hRN HPP hc0 hsc hsc1 h hAT hA hlow hB1
 rw [HP.out] at hRI
 obtain ⟨g,og,rfl,_,_,hcell0⟩:=hRI 0 (by simp)
 have hcell0':w1.cell? ⟨g,og,none⟩=some (.int .i64 (i+2)):=hcell0
 clear hcell0
 have hkc:((k'+1:Nat):Int)≤(cv:Int):=by omega
 go_wp2_with fail
 refine (HU1.out _ hSt1).mono ?_
 rintro r w2 ⟨rfl,S2,hSt2,hN2⟩
 have hR2:=hRI.nxt hN2
 have hN:=hN1.trans hN2
 clear hRI HU1 HP hcell0'
 by_cases hcv1:cv=1
 ·subst hcv1
  have hk00:k'=0:=by omega
  subst hk00
  have HX:Hid (RowI S2 w2 (some ⟨g,og,none⟩) (chainP L 0 (i+3))):=fun j hj=>absurd hj (Nat.not_lt_zero _)
  clear hR2
  go_wp2_with fail
  refine (HC.out _ _ _ _ hSt2 HX.out).mono ?_
  rintro r w3 ⟨rfl,S3,U3,hSt3,hN3,hU3⟩
  have hNN:=hN.trans hN3
  clear HC
  go_wp2
  go_end0
  exact ⟨rfl,S3,U3,hSt3,hNN,by omega⟩
 ·have HX:Hid (RowI S2 w2 (some ⟨g,og+1,none⟩) (chainP L k' (i+3))):=hR2.tail
  clear hR2
  go_wp2_with fail
  refine (HC.out _ _ _ _ hSt2 HX.out).mono ?_
  rintro r w3 ⟨rfl,S3,U3,hSt3,hN3,hU3⟩
  have hNN:=hN.trans hN3
  clear HC
  go_wp2
  go_end0
  exact ⟨rfl,S3,U3,hSt3,hNN,by omega⟩
set_option maxRecDepth 100000 in
set_option maxHeartbeats 8000000 in
theorem read_hput {a:Option Addr} {cap:Nat} {L:List ByteArray} {c n:Nat} (hR:ReadC a cap L c n) (_hK:RBlkC a cap L c n) (hL:L.length≤2000) (hsg:signsB L=true) (S:Nat→Prop) (E:Blks) (lp:Bool) (F:Ot) (U:Nat) (i:Int) (w:World) (h:St S c a cap L E F U w) (hv:ItV L i) (ho:isW (sgAt L i) [40]=true) (hc:isW (sgAt L (i+1)) [104,112,117,116]=true) (hn:2 * farN L i+1≤n+1) (hE:E.length+(n+1)≤20000) (hU:(U:Int)≤i) :
  Calls Tryz.prog 120 #[.pointer (some ⟨c,0,none⟩),.int .i64 i,.bool lp] w fun r w'=>r=.returned (.tuple #[])∧∃ S' U',St S' c a cap L E (F.add (wk L (n+1) 0 false i (knE E lp))) U' w'∧Nxt S S' w w'∧(U':Int)≤itemE L i:=by
 have hends:=hv.ends
 obtain ⟨hit,k,e,hch,he0,he1,he,hie⟩:=hv.parts ho
 have hke:=chI_ends k _ hch he0
 have HW:Hid (wk L (n+1) 0 false i (knE E lp)=(hideO L (knE E lp) (i+2)).add (outs (fun p=>wk L n 0 false p (knE E lp)) (plc L (i+3)))):=itw_hput (wk L n) (knE E lp) ho hc
 obtain ⟨n1,n2,k',e',n3,n4,n5⟩:=hv.name_sums ho _ hc (Or.inr rfl)
 have hee:e=e':=by omega
 subst hee
 have hx2:itemE L (i+2)=i+3:=by rw [item_one (by omega) (by omega) (nm_plain n2)];omega
 have hce:=chainV_ends k' _ n3 he0
 have hkk:k=k'+1:=by
  obtain ⟨k1,rfl,_,q1⟩:=chI_next hch (by omega)
  rw [hx2] at q1
  rw [(chI_one _ _ _ q1 (chI_V k' _ n3) (itemE_none (Or.inr (Or.inr he))) (itemE_none (Or.inr (Or.inr he)))).1]
 subst hkk
 have HP:Hid (chainP L (k'+1) (i+2)=(i+2) :: chainP L k' (i+3)):=(by rw [chainP_succ,hx2]:chainP L (k'+1) (i+2)=(i+2) :: chainP L k' (i+3))
 have hf:=farR_lt (L:=L) hends.1 (by omega:i < i+3) (by omega)
 have hup:=upL_chain k' _ n3
 have hpl:=plc_chain n3 he0 (by omega) (Or.inr he)
 have hcl:=chP_len L k' (i+3)
 have HU1:Hid (∀ W,St S c a cap L E F U W→Calls Tryz.prog 143 #[.pointer (some ⟨c,0,none⟩),.int .i64 (i+2),.bool true] W fun e w'=>e=.returned (.tuple #[])∧∃ S',St S' c a cap L E (F.add (usO L true E (i+2))) (U+1) w'∧Nxt S S' W w'):=fun W hW=>use_any S c a cap L E F U (i+2) true W hW (by omega) n1 (by omega)
 have HC:Hid (∀ (S1:Nat→Prop) ad cd W,St S1 c a cap L E (F.add (usO L true E (i+2))) (U+1) W→RowI S1 W ad (chainP L k' (i+3))→Calls Tryz.prog 88 #[.pointer (some ⟨c,0,none⟩),.slice ad k' cd,.bool lp] W fun r w'=>r=.returned (.tuple #[])∧∃ S' U',St S' c a cap L E (F.add (wk L (n+1) 0 false i (knE E lp))) U' w'∧Nxt S1 S' W w'∧(U':Int)≤e):=fun S1 ad cd W hW hX=>by
  rw [HW.out,← usO_hide L E lp,← Ot.add_assoc,hpl]
  exact readAll_any hR S1 E lp _ (U+1) (i+3) e (chainP L k' (i+3)) ad k' cd W hcl.symm hW hX hup (by omega) (by rw [hcl];omega) (by omega) (by omega) (by omega)
 have hk0:(0:Int) < ((k'+1:Nat):Int):=by omega
 have hk1:(1:Int)≤((k'+1:Nat):Int):=by omega
 clear HW n2 n3 n4 n5 hf hup hpl hx2 hce
 have HPP:Hid (∀ W,ArgT W a L→Calls Tryz.prog 118 #[.slice a L.length cap,.int .i64 i] W fun r W'=>∃ av cv,r=.returned (.slice av (k'+1) cv)∧k'+1≤cv∧RowN W.heap.size W' av (chainP L (k'+1) (i+2))∧Below W.heap.size W W'):=fun W hA=>partsOf_any _ cap L _ e (k'+1) (by omega) hsg hv ho hch he0 he1 he W hA
 have bhidden:((sgAt L (i+1)).toList == [104,105,100,100,101,110])=false:=isW_other hc (by decide)
 have bvars:((sgAt L (i+1)).toList == [118,97,114,115])=false:=isW_other hc (by decide)
 have blet:((sgAt L (i+1)).toList == [108,101,116])=false:=isW_other hc (by decide)
 have btake:((sgAt L (i+1)).toList == [116,97,107,101])=false:=isW_other hc (by decide)
 have bset:((sgAt L (i+1)).toList == [115,101,116])=false:=isW_other hc (by decide)
 have bhget:((sgAt L (i+1)).toList == [104,103,101,116])=false:=isW_other hc (by decide)
 have bhput:((sgAt L (i+1)).toList == [104,112,117,116])=true:=hc
 have b40:((sgAt L i).toList == [40])=true:=ho
 obtain ⟨⟨x,hM,hS⟩,hA⟩:=id h
 obtain ⟨sb,off,rfl,hsc,hsm,hsz,hsn⟩:=hA.at (i:=i) (by omega) (by omega)
 obtain ⟨sb1,off1,hsa,hsc1,hsm1,hsz1,hsn1⟩:=hA.at (i:=i+1) (by omega) (by omega)
 injection hsa with hsa
 injection hsa with ea eb _
 subst ea eb
 have hc0:=hM.c0
 have hlow:=hM.low
 have hAT:=hA.arg
 obtain ⟨ii,hii⟩:∃ ii:Nat,i=(ii:Int):=⟨i.toNat,by omega⟩
 have hwr:IntKind.i64.wrap (i+1)=i+1:=IntWalk.i64_in _ (by omega)
 have hp0:(0:Int)≤i+1:=by omega
 have hp1:i+1 < (L.length:Int):=by omega
 have hq0:(0:Int)≤i:=by omega
 have hq1:i < (L.length:Int):=by omega
 clear hii hM hS hit hke
 generalize hg40:sgAt L i=s40 at hsc hsm b40
 generalize hg1:sgAt L (i+1)=s1 at hsc1 hsm1 bhidden bvars blet btake bset bhget bhput
 clear hg40 hg1 hc ho
 go_enter Tryz.func120,Tryz.ntmps120
 go_wp2_with fail
 refine (HPP.out _ hAT).mono ?_
 rintro r w1 ⟨av,cv,rfl,hcv,hRN,hB1⟩
 have hSt1:=h.call hB1
 have hN1:=Nxt.of_below S hB1
 have hc01:=(hB1.cell (p:=⟨c,0,none⟩) (by obtain ⟨⟨x,hM,_⟩,_⟩:=h;exact hM.lt)).trans hc0
 have hsc11:=(hB1.cell (p:=⟨sb,off+(i+1).toNat,none⟩) hsz1).trans hsc1
 have hRI:=hRN.row (fun k hk=>(hlow k hk).2)
 clear hRN HPP hc0 hsc hsc1 h hAT hA hlow hB1
 rw [HP.out] at hRI
 obtain ⟨g,og,rfl,_,_,hcell0⟩:=hRI 0 (by simp)
 have hcell0':w1.cell? ⟨g,og,none⟩=some (.int .i64 (i+2)):=hcell0
 clear hcell0
 have hkc:((k'+1:Nat):Int)≤(cv:Int):=by omega
 go_wp2_with fail
 refine (HU1.out _ hSt1).mono ?_
 rintro r w2 ⟨rfl,S2,hSt2,hN2⟩
 have hR2:=hRI.nxt hN2
 have hN:=hN1.trans hN2
 clear hRI HU1 HP hcell0'
 by_cases hcv1:cv=1
 ·subst hcv1
  have hk00:k'=0:=by omega
  subst hk00
  have HX:Hid (RowI S2 w2 (some ⟨g,og,none⟩) (chainP L 0 (i+3))):=fun j hj=>absurd hj (Nat.not_lt_zero _)
  clear hR2
  go_wp2_with fail
  refine (HC.out _ _ _ _ hSt2 HX.out).mono ?_
  rintro r w3 ⟨rfl,S3,U3,hSt3,hN3,hU3⟩
  have hNN:=hN.trans hN3
  clear HC
  go_wp2
  go_end0
  exact ⟨rfl,S3,U3,hSt3,hNN,by omega⟩
 ·have HX:Hid (RowI S2 w2 (some ⟨g,og+1,none⟩) (chainP L k' (i+3))):=hR2.tail
  clear hR2
  go_wp2_with fail
  refine (HC.out _ _ _ _ hSt2 HX.out).mono ?_
  rintro r w3 ⟨rfl,S3,U3,hSt3,hN3,hU3⟩
  have hNN:=hN.trans hN3
  clear HC
  go_wp2
  go_end0
  exact ⟨rfl,S3,U3,hSt3,hNN,by omega⟩
set_option maxRecDepth 100000 in
set_option maxHeartbeats 8000000 in
theorem read_leave {a:Option Addr} {cap:Nat} {L:List ByteArray} {c n:Nat} (_hR:ReadC a cap L c n) (_hK:RBlkC a cap L c n) (hL:L.length≤2000) (hsg:signsB L=true) (S:Nat→Prop) (E:Blks) (lp:Bool) (F:Ot) (U:Nat) (i:Int) (w:World) (h:St S c a cap L E F U w) (hv:ItV L i) (ho:isW (sgAt L i) [40]=true) (hc:isW (sgAt L (i+1)) [108,101,97,118,101]=true) (_hn:2 * farN L i+1≤n+1) (_hE:E.length+(n+1)≤20000) (hU:(U:Int)≤i) :
  Calls Tryz.prog 120 #[.pointer (some ⟨c,0,none⟩),.int .i64 i,.bool lp] w fun r w'=>r=.returned (.tuple #[])∧∃ S' U',St S' c a cap L E (F.add (wk L (n+1) 0 false i (knE E lp))) U' w'∧Nxt S S' w w'∧(U':Int)≤itemE L i:=by
 have hends:=hv.ends
 obtain ⟨hit,k,e,hch,he0,he1,he,hie⟩:=hv.parts ho
 have hke:=chI_ends k _ hch he0
 have HW:Hid (wk L (n+1) 0 false i (knE E lp)=badO (!lp)):=itw_leave (wk L n) (knE E lp) ho hc
 have HPP:Hid (∀ W,ArgT W a L→Calls Tryz.prog 118 #[.slice a L.length cap,.int .i64 i] W fun r W'=>∃ av cv,r=.returned (.slice av k cv)∧k≤cv∧RowN W.heap.size W' av (chainP L k (i+2))∧Below W.heap.size W W'):=fun W hA=>partsOf_any _ cap L _ e k (by omega) hsg hv ho hch he0 he1 he W hA
 have bhidden:((sgAt L (i+1)).toList == [104,105,100,100,101,110])=false:=isW_other hc (by decide)
 have bvars:((sgAt L (i+1)).toList == [118,97,114,115])=false:=isW_other hc (by decide)
 have blet:((sgAt L (i+1)).toList == [108,101,116])=false:=isW_other hc (by decide)
 have btake:((sgAt L (i+1)).toList == [116,97,107,101])=false:=isW_other hc (by decide)
 have bset:((sgAt L (i+1)).toList == [115,101,116])=false:=isW_other hc (by decide)
 have bhget:((sgAt L (i+1)).toList == [104,103,101,116])=false:=isW_other hc (by decide)
 have bhput:((sgAt L (i+1)).toList == [104,112,117,116])=false:=isW_other hc (by decide)
 have bfn:((sgAt L (i+1)).toList == [102,110])=false:=isW_other hc (by decide)
 have bdo:((sgAt L (i+1)).toList == [100,111])=false:=isW_other hc (by decide)
 have bwhile:((sgAt L (i+1)).toList == [119,104,105,108,101])=false:=isW_other hc (by decide)
 have bfor:((sgAt L (i+1)).toList == [102,111,114])=false:=isW_other hc (by decide)
 have bleave:((sgAt L (i+1)).toList == [108,101,97,118,101])=true:=hc
 have b40:((sgAt L i).toList == [40])=true:=ho
 obtain ⟨⟨x,hM,hS⟩,hA⟩:=id h
 obtain ⟨sb,off,rfl,hsc,hsm,hsz,hsn⟩:=hA.at (i:=i) (by omega) (by omega)
 obtain ⟨sb1,off1,hsa,hsc1,hsm1,hsz1,hsn1⟩:=hA.at (i:=i+1) (by omega) (by omega)
 injection hsa with hsa
 injection hsa with ea eb _
 subst ea eb
 have hc0:=hM.c0
 have hlow:=hM.low
 have hAT:=hA.arg
 obtain ⟨ii,hii⟩:∃ ii:Nat,i=(ii:Int):=⟨i.toNat,by omega⟩
 have hwr:IntKind.i64.wrap (i+1)=i+1:=IntWalk.i64_in _ (by omega)
 have hp0:(0:Int)≤i+1:=by omega
 have hp1:i+1 < (L.length:Int):=by omega
 have hq0:(0:Int)≤i:=by omega
 have hq1:i < (L.length:Int):=by omega
 clear hii hM hS hit hke
 generalize hg40:sgAt L i=s40 at hsc hsm b40
 generalize hg1:sgAt L (i+1)=s1 at hsc1 hsm1 bhidden bvars blet btake bset bhget bhput bfn bdo bwhile bfor bleave
 clear hg40 hg1 hc ho
 go_enter Tryz.func120,Tryz.ntmps120
 go_wp2_with fail
 refine (HPP.out _ hAT).mono ?_
 rintro r w1 ⟨av,cv,rfl,hcv,hRN,hB1⟩
 have hSt1:=h.call hB1
 have hN1:=Nxt.of_below S hB1
 have hc01:=(hB1.cell (p:=⟨c,0,none⟩) (by obtain ⟨⟨x,hM,_⟩,_⟩:=h;exact hM.lt)).trans hc0
 have hsc11:=(hB1.cell (p:=⟨sb,off+(i+1).toNat,none⟩) hsz1).trans hsc1
 have hRI:=hRN.row (fun k hk=>(hlow k hk).2)
 clear hRN HPP hc0 hsc hsc1 h hAT hA hlow hB1
 clear hRI
 obtain ⟨⟨x,hM,hS⟩,hA⟩:=hSt1
 have k6:=hM.c6
 have f6:=hM.fz 6
 have HF:Hid (St S c (some ⟨sb,off,none⟩) cap L E (F.add (wk L (n+1) 0 false i (knE E lp))) U (w1.setCell ⟨c,6,none⟩ (.bool (x.fo || !lp)))∧Nxt S S w1 (w1.setCell ⟨c,6,none⟩ (.bool (x.fo || !lp)))):=by
  have hN6:=Nxt.set S w1 (p:=⟨c,6,none⟩) (.bool (x.fo || !lp)) hM.own
  have hs6:=said_bad hS (!lp) { x with fo:=x.fo || !lp } rfl rfl (by cases x.ft <;> cases x.fo <;> cases x.fv <;> cases lp <;> rfl)
  rw [HW.out]
  exact ⟨⟨⟨_,hM.flag6 _,hs6⟩,hA.nxt hN6⟩,hN6⟩
 clear HW hM hS hA
 generalize hfo:x.fo=fo at k6 HF
 clear hfo
 cases fo
 ·cases lp
  ·go_wp2
   go_end0
   obtain ⟨h1,h2⟩:=HF.out
   exact ⟨rfl,S,U,h1,hN1.trans h2,by omega⟩
  ·go_wp2
   go_end0
   obtain ⟨h1,h2⟩:=HF.out
   exact ⟨rfl,S,U,h1,hN1.trans h2,by omega⟩
 ·have HT:Hid ((true || !lp)=true):=(rfl:(true || !lp)=true)
  rw [HT.out] at HF
  go_wp2
  go_end0
  obtain ⟨h1,h2⟩:=HF.out
  exact ⟨rfl,S,U,h1,hN1.trans h2,by omega⟩
set_option maxRecDepth 100000 in
set_option maxHeartbeats 8000000 in
theorem read_next {a:Option Addr} {cap:Nat} {L:List ByteArray} {c n:Nat} (_hR:ReadC a cap L c n) (_hK:RBlkC a cap L c n) (hL:L.length≤2000) (hsg:signsB L=true) (S:Nat→Prop) (E:Blks) (lp:Bool) (F:Ot) (U:Nat) (i:Int) (w:World) (h:St S c a cap L E F U w) (hv:ItV L i) (ho:isW (sgAt L i) [40]=true) (hc:isW (sgAt L (i+1)) [110,101,120,116]=true) (_hn:2 * farN L i+1≤n+1) (_hE:E.length+(n+1)≤20000) (hU:(U:Int)≤i) :
  Calls Tryz.prog 120 #[.pointer (some ⟨c,0,none⟩),.int .i64 i,.bool lp] w fun r w'=>r=.returned (.tuple #[])∧∃ S' U',St S' c a cap L E (F.add (wk L (n+1) 0 false i (knE E lp))) U' w'∧Nxt S S' w w'∧(U':Int)≤itemE L i:=by
 have hends:=hv.ends
 obtain ⟨hit,k,e,hch,he0,he1,he,hie⟩:=hv.parts ho
 have hke:=chI_ends k _ hch he0
 have HW:Hid (wk L (n+1) 0 false i (knE E lp)=badO (!lp)):=itw_next (wk L n) (knE E lp) ho hc
 have HPP:Hid (∀ W,ArgT W a L→Calls Tryz.prog 118 #[.slice a L.length cap,.int .i64 i] W fun r W'=>∃ av cv,r=.returned (.slice av k cv)∧k≤cv∧RowN W.heap.size W' av (chainP L k (i+2))∧Below W.heap.size W W'):=fun W hA=>partsOf_any _ cap L _ e k (by omega) hsg hv ho hch he0 he1 he W hA
 have bhidden:((sgAt L (i+1)).toList == [104,105,100,100,101,110])=false:=isW_other hc (by decide)
 have bvars:((sgAt L (i+1)).toList == [118,97,114,115])=false:=isW_other hc (by decide)
 have blet:((sgAt L (i+1)).toList == [108,101,116])=false:=isW_other hc (by decide)
 have btake:((sgAt L (i+1)).toList == [116,97,107,101])=false:=isW_other hc (by decide)
 have bset:((sgAt L (i+1)).toList == [115,101,116])=false:=isW_other hc (by decide)
 have bhget:((sgAt L (i+1)).toList == [104,103,101,116])=false:=isW_other hc (by decide)
 have bhput:((sgAt L (i+1)).toList == [104,112,117,116])=false:=isW_other hc (by decide)
 have bfn:((sgAt L (i+1)).toList == [102,110])=false:=isW_other hc (by decide)
 have bdo:((sgAt L (i+1)).toList == [100,111])=false:=isW_other hc (by decide)
 have bwhile:((sgAt L (i+1)).toList == [119,104,105,108,101])=false:=isW_other hc (by decide)
 have bfor:((sgAt L (i+1)).toList == [102,111,114])=false:=isW_other hc (by decide)
 have bleave:((sgAt L (i+1)).toList == [108,101,97,118,101])=false:=isW_other hc (by decide)
 have bnext:((sgAt L (i+1)).toList == [110,101,120,116])=true:=hc
 have b40:((sgAt L i).toList == [40])=true:=ho
 obtain ⟨⟨x,hM,hS⟩,hA⟩:=id h
 obtain ⟨sb,off,rfl,hsc,hsm,hsz,hsn⟩:=hA.at (i:=i) (by omega) (by omega)
 obtain ⟨sb1,off1,hsa,hsc1,hsm1,hsz1,hsn1⟩:=hA.at (i:=i+1) (by omega) (by omega)
 injection hsa with hsa
 injection hsa with ea eb _
 subst ea eb
 have hc0:=hM.c0
 have hlow:=hM.low
 have hAT:=hA.arg
 obtain ⟨ii,hii⟩:∃ ii:Nat,i=(ii:Int):=⟨i.toNat,by omega⟩
 have hwr:IntKind.i64.wrap (i+1)=i+1:=IntWalk.i64_in _ (by omega)
 have hp0:(0:Int)≤i+1:=by omega
 have hp1:i+1 < (L.length:Int):=by omega
 have hq0:(0:Int)≤i:=by omega
 have hq1:i < (L.length:Int):=by omega
 clear hii hM hS hit hke
 generalize hg40:sgAt L i=s40 at hsc hsm b40
 generalize hg1:sgAt L (i+1)=s1 at hsc1 hsm1 bhidden bvars blet btake bset bhget bhput bfn bdo bwhile bfor bleave bnext
 clear hg40 hg1 hc ho
 go_enter Tryz.func120,Tryz.ntmps120
 go_wp2_with fail
 refine (HPP.out _ hAT).mono ?_
 rintro r w1 ⟨av,cv,rfl,hcv,hRN,hB1⟩
 have hSt1:=h.call hB1
 have hN1:=Nxt.of_below S hB1
 have hc01:=(hB1.cell (p:=⟨c,0,none⟩) (by obtain ⟨⟨x,hM,_⟩,_⟩:=h;exact hM.lt)).trans hc0
 have hsc11:=(hB1.cell (p:=⟨sb,off+(i+1).toNat,none⟩) hsz1).trans hsc1
 have hRI:=hRN.row (fun k hk=>(hlow k hk).2)
 clear hRN HPP hc0 hsc hsc1 h hAT hA hlow hB1
 clear hRI
 obtain ⟨⟨x,hM,hS⟩,hA⟩:=hSt1
 have k6:=hM.c6
 have f6:=hM.fz 6
 have HF:Hid (St S c (some ⟨sb,off,none⟩) cap L E (F.add (wk L (n+1) 0 false i (knE E lp))) U (w1.setCell ⟨c,6,none⟩ (.bool (x.fo || !lp)))∧Nxt S S w1 (w1.setCell ⟨c,6,none⟩ (.bool (x.fo || !lp)))):=by
  have hN6:=Nxt.set S w1 (p:=⟨c,6,none⟩) (.bool (x.fo || !lp)) hM.own
  have hs6:=said_bad hS (!lp) { x with fo:=x.fo || !lp } rfl rfl (by cases x.ft <;> cases x.fo <;> cases x.fv <;> cases lp <;> rfl)
  rw [HW.out]
  exact ⟨⟨⟨_,hM.flag6 _,hs6⟩,hA.nxt hN6⟩,hN6⟩
 clear HW hM hS hA
 generalize hfo:x.fo=fo at k6 HF
 clear hfo
 cases fo
 ·cases lp
  ·go_wp2
   go_end0
   obtain ⟨h1,h2⟩:=HF.out
   exact ⟨rfl,S,U,h1,hN1.trans h2,by omega⟩
  ·go_wp2
   go_end0
   obtain ⟨h1,h2⟩:=HF.out
   exact ⟨rfl,S,U,h1,hN1.trans h2,by omega⟩
 ·have HT:Hid ((true || !lp)=true):=(rfl:(true || !lp)=true)
  rw [HT.out] at HF
  go_wp2
  go_end0
  obtain ⟨h1,h2⟩:=HF.out
  exact ⟨rfl,S,U,h1,hN1.trans h2,by omega⟩
end Q
end Go.Proofs.YtdgihicpjonjgaaGreatDoor
namespace Go.Proofs.YtdgihicpjonjgaaGreatDoor
open Go.RowKit
namespace Q
set_option maxRecDepth 100000 in
set_option maxHeartbeats 8000000 in
theorem read_fn {a:Option Addr} {cap:Nat} {L:List ByteArray} {c n:Nat} (hR:ReadC a cap L c n) (hK:RBlkC a cap L c n) (hL:L.length≤2000) (hsg:signsB L=true) (S:Nat→Prop) (E:Blks) (lp:Bool) (F:Ot) (U:Nat) (i:Int) (w:World) (h:St S c a cap L E F U w) (hv:ItV L i) (ho:isW (sgAt L i) [40]=true) (hc:isW (sgAt L (i+1)) [102,110]=true) (hn:2 * farN L i+1≤n+1) (hE:E.length+(n+1)≤20000) (hU:(U:Int)≤i) :
  Calls Tryz.prog 120 #[.pointer (some ⟨c,0,none⟩),.int .i64 i,.bool lp] w fun r w'=>r=.returned (.tuple #[])∧∃ S' U',St S' c a cap L E (F.add (wk L (n+1) 0 false i (knE E lp))) U' w'∧Nxt S S' w w'∧(U':Int)≤itemE L i:=by
 have hends:=hv.ends
 obtain ⟨hit,k,e,hch,he0,he1,he,hie⟩:=hv.parts ho
 have hke:=chI_ends k _ hch he0
 have HW:Hid (wk L (n+1) 0 false i (knE E lp)=fnO L (wk L n) i (knE E lp)):=itw_fn (wk L n) (knE E lp) ho hc
 obtain ⟨n1,kq,e7,m,e6,q1,q2,q3,q4,q5,q6,q7,q8,q9,q10⟩:=hv.fn ho hc
 have hee:e=e6:=by omega
 subst hee
 have hqe:=chainQ_ends kq _ q1 q2
 have hme:=chain_ends m _ q6 q7
 obtain ⟨k1,hk1e,hit2,q11⟩:=chI_next hch (by omega)
 have hx2:itemE L (i+2)=e7+1:=by
  obtain ⟨k2,e2,r1,r2,r3,r4,r5⟩:=item_parts n1 hit2
  rw [show i+2+1=i+3 by omega] at r1
  have:=(chI_one _ _ _ r1 (chI_Q kq _ q1) (itemE_none (Or.inr (Or.inr r4))) (itemE_none (Or.inr (Or.inr q4)))).2
  omega
 rw [hx2] at q11
 have hkm:=(chI_one _ _ _ q11 (chI_V m _ (chain_deeds m _ q6).1) (itemE_none (Or.inr (Or.inr he))) (itemE_none (Or.inr (Or.inr he)))).1
 subst hkm
 subst hk1e
 have HP:Hid (chainP L (k1+1) (i+2)=(i+2) :: chainP L k1 (e7+1)):=(by rw [chainP_succ,hx2]:chainP L (k1+1) (i+2)=(i+2) :: chainP L k1 (e7+1))
 have HC:Hid (∀ ad cd W,St S c a cap L E F U W→RowI S W ad (chainP L k1 (e7+1))→Calls Tryz.prog 144 #[.pointer (some ⟨c,0,none⟩),.int .i64 (i+2),.slice ad k1 cd] W fun r w'=>r=.returned (.tuple #[])∧∃ S' U',St S' c a cap L E (F.add (wk L (n+1) 0 false i (knE E lp))) U' w'∧Nxt S S' W w'∧(U':Int)≤e):=fun ad cd W hW hX=>by
  rw [HW.out]
  exact readFunction_any hR hK hL hsg S E lp F U i e7 e kq k1 ad cd W hW hX hends.1 n1 hit2 q1 q2 q3 q4 q5 q6 q7 q8 q9 hn hE hU
 have hk0:(0:Int) < ((k1+1:Nat):Int):=by omega
 have hk1:(1:Int)≤((k1+1:Nat):Int):=by omega
 clear HW n1 q1 q5 q6 q11 hx2
 have HPP:Hid (∀ W,ArgT W a L→Calls Tryz.prog 118 #[.slice a L.length cap,.int .i64 i] W fun r W'=>∃ av cv,r=.returned (.slice av (k1+1) cv)∧k1+1≤cv∧RowN W.heap.size W' av (chainP L (k1+1) (i+2))∧Below W.heap.size W W'):=fun W hA=>partsOf_any _ cap L _ e (k1+1) (by omega) hsg hv ho hch he0 he1 he W hA
 have bhidden:((sgAt L (i+1)).toList == [104,105,100,100,101,110])=false:=isW_other hc (by decide)
 have bvars:((sgAt L (i+1)).toList == [118,97,114,115])=false:=isW_other hc (by decide)
 have blet:((sgAt L (i+1)).toList == [108,101,116])=false:=isW_other hc (by decide)
 have btake:((sgAt L (i+1)).toList == [116,97,107,101])=false:=isW_other hc (by decide)
 have bset:((sgAt L (i+1)).toList == [115,101,116])=false:=isW_other hc (by decide)
 have bhget:((sgAt L (i+1)).toList == [104,103,101,116])=false:=isW_other hc (by decide)
 have bhput:((sgAt L (i+1)).toList == [104,112,117,116])=false:=isW_other hc (by decide)
 have bfn:((sgAt L (i+1)).toList == [102,110])=true:=hc
 have b40:((sgAt L i).toList == [40])=true:=ho
 obtain ⟨⟨x,hM,hS⟩,hA⟩:=id h
 obtain ⟨sb,off,rfl,hsc,hsm,hsz,hsn⟩:=hA.at (i:=i) (by omega) (by omega)
 obtain ⟨sb1,off1,hsa,hsc1,hsm1,hsz1,hsn1⟩:=hA.at (i:=i+1) (by omega) (by omega)
 injection hsa with hsa
 injection hsa with ea eb _
 subst ea eb
 have hc0:=hM.c0
 have hlow:=hM.low
 have hAT:=hA.arg
 obtain ⟨ii,hii⟩:∃ ii:Nat,i=(ii:Int):=⟨i.toNat,by omega⟩
 have hwr:IntKind.i64.wrap (i+1)=i+1:=IntWalk.i64_in _ (by omega)
 have hp0:(0:Int)≤i+1:=by omega
 have hp1:i+1 < (L.length:Int):=by omega
 have hq0:(0:Int)≤i:=by omega
 have hq1:i < (L.length:Int):=by omega
 clear hii hM hS hit hke
 generalize hg40:sgAt L i=s40 at hsc hsm b40
 generalize hg1:sgAt L (i+1)=s1 at hsc1 hsm1 bhidden bvars blet btake bset bhget bhput bfn
 clear hg40 hg1 hc ho
 go_enter Tryz.func120,Tryz.ntmps120
 go_wp2_with fail
 refine (HPP.out _ hAT).mono ?_
 rintro r w1 ⟨av,cv,rfl,hcv,hRN,hB1⟩
 have hSt1:=h.call hB1
 have hN1:=Nxt.of_below S hB1
 have hc01:=(hB1.cell (p:=⟨c,0,none⟩) (by obtain ⟨⟨x,hM,_⟩,_⟩:=h;exact hM.lt)).trans hc0
 have hsc11:=(hB1.cell (p:=⟨sb,off+(i+1).toNat,none⟩) hsz1).trans hsc1
 have hRI:=hRN.row (fun k hk=>(hlow k hk).2)
 clear hRN HPP hc0 hsc hsc1 h hAT hA hlow hB1
 rw [HP.out] at hRI
 obtain ⟨g,og,rfl,_,_,hcell0⟩:=hRI 0 (by simp)
 have hcell0':w1.cell? ⟨g,og,none⟩=some (.int .i64 (i+2)):=hcell0
 clear hcell0
 have hkc:((k1+1:Nat):Int)≤(cv:Int):=by omega
 have hStd:=hSt1.call ((Below.refl w1.heap.size w1).drew)
 clear HP
 by_cases hcv1:cv=1
 ·subst hcv1
  have hk00:k1=0:=by omega
  subst hk00
  have HX:RowI S w1.drew (some ⟨g,og,none⟩) (chainP L 0 (e7+1)):=fun j hj=>absurd hj (Nat.not_lt_zero _)
  have HCC:=HC.out (some ⟨g,og,none⟩) 0 w1.drew hStd HX
  clear HX hRI HC
  go_upto_region 18 with fail
  first | go_region_with (refine HCC.mono ?_;rintro r w2 ⟨rfl,S2,U2,hSt2,hN2,hU2⟩) | fail
  all_goals go_wp2
  all_goals go_end0
  all_goals exact ⟨rfl,S2,U2,hSt2,hN1.trans ⟨hN2.os,hN2.tape,hN2.output,hN2.size,hN2.block,hN2.sub⟩,by omega⟩
 ·have HX:RowI S w1.drew (some ⟨g,og+1,none⟩) (chainP L k1 (e7+1)):=hRI.tail
  have HCC:=HC.out (some ⟨g,og+1,none⟩) (cv - 1) w1.drew hStd HX
  clear HX hRI HC
  go_upto_region 18 with fail
  first | go_region_with (refine HCC.mono ?_;rintro r w2 ⟨rfl,S2,U2,hSt2,hN2,hU2⟩) | fail
  all_goals go_wp2
  all_goals go_end0
  all_goals exact ⟨rfl,S2,U2,hSt2,hN1.trans ⟨hN2.os,hN2.tape,hN2.output,hN2.size,hN2.block,hN2.sub⟩,by omega⟩
set_option maxRecDepth 100000 in
set_option maxHeartbeats 8000000 in
theorem read_for {a:Option Addr} {cap:Nat} {L:List ByteArray} {c n:Nat} (hR:ReadC a cap L c n) (_hK:RBlkC a cap L c n) (hL:L.length≤2000) (hsg:signsB L=true) (S:Nat→Prop) (E:Blks) (lp:Bool) (F:Ot) (U:Nat) (i:Int) (w:World) (h:St S c a cap L E F U w) (hv:ItV L i) (ho:isW (sgAt L i) [40]=true) (hc:isW (sgAt L (i+1)) [102,111,114]=true) (hn:2 * farN L i+1≤n+1) (hE:E.length+(n+1)≤20000) (hU:(U:Int)≤i) :
  Calls Tryz.prog 120 #[.pointer (some ⟨c,0,none⟩),.int .i64 i,.bool lp] w fun r w'=>r=.returned (.tuple #[])∧∃ S' U',St S' c a cap L E (F.add (wk L (n+1) 0 false i (knE E lp))) U' w'∧Nxt S S' w w'∧(U':Int)≤itemE L i:=by
 have hends:=hv.ends
 obtain ⟨hit,k,e,hch,he0,he1,he,hie⟩:=hv.parts ho
 have hke:=chI_ends k _ hch he0
 have HW:Hid (wk L (n+1) 0 false i (knE E lp)=(wk L n 0 false (i+3) (knE E lp)).add ((wk L n 0 false (itemE L (i+3)) (knE E lp)).add (wk L n 0 false (itemE L (itemE L (i+3))) (addN (inLoop (knE E lp) true) [i+2])))):=itw_for (wk L n) (knE E lp) ho hc
 obtain ⟨n1,n2,n3,n4,n5,n6⟩:=hv.name_three ho hc
 have hx2:itemE L (i+2)=i+3:=by rw [item_one (by omega) (by omega) (nm_plain n1)];omega
 have m3:=n3.ends
 obtain ⟨x4,hx3⟩:∃ y,itemE L (i+3)=y:=⟨_,rfl⟩
 rw [hx3] at n4 n5 n6 m3 HW
 have m4:=n4.ends
 obtain ⟨x5,hx4⟩:∃ y,itemE L x4=y:=⟨_,rfl⟩
 rw [hx4] at n5 n6 m4 HW
 have m5:=n5.ends
 have hP:chainP L k (i+2)=(i+2) :: (i+3) :: x4 :: x5 :: chainP L (k - 4) (itemE L x5)∧4≤k:=by
  obtain ⟨k1,rfl,_,q1⟩:=chI_next hch (by omega)
  rw [hx2] at q1
  obtain ⟨k2,rfl,_,q2⟩:=chI_next q1 (by omega)
  rw [hx3] at q2
  obtain ⟨k3,rfl,_,q3⟩:=chI_next q2 (by omega)
  rw [hx4] at q3
  obtain ⟨k4,rfl,_,_⟩:=chI_next q3 (by omega)
  exact ⟨by rw [chainP_succ,hx2,chainP_succ,hx3,chainP_succ,hx4,chainP_succ];rfl,by omega⟩
 obtain ⟨hP1,hk4⟩:=hP
 have HP:Hid (chainP L k (i+2)=(i+2) :: (i+3) :: x4 :: x5 :: chainP L (k - 4) (itemE L x5)):=hP1
 clear hP1
 have hf:=farR_lt (L:=L) hends.1 (by omega:i < i+3) (by omega)
 have hf5:=farR_lt (L:=L) hends.1 (by omega:i < x5) (by omega)
 have hup:UpL L [i+3,x4] (i+3) x5:=⟨Int.le_refl _,n3,by rw [hx3];exact ⟨Int.le_refl _,n4,by rw [hx4];exact Int.le_refl _⟩⟩
 have HU1:Hid (∀ ad cd W,St S c a cap L E F U W→RowI S W ad [i+3,x4]→Calls Tryz.prog 88 #[.pointer (some ⟨c,0,none⟩),.slice ad 2 cd,.bool lp] W fun r w'=>r=.returned (.tuple #[])∧∃ S' U',St S' c a cap L E ((F.add (wk L n 0 false (i+3) (knE E lp))).add (wk L n 0 false x4 (knE E lp))) U' w'∧Nxt S S' W w'∧(U':Int)≤x5):=fun ad cd W hW hX=>by
  have:=readAll_any hR S E lp F U (i+3) x5 [i+3,x4] ad 2 cd W rfl hW hX hup (by omega) (by simp) (by omega) (by omega) (by omega)
  rw [show outs (fun p=>wk L n 0 false p (knE E lp)) [i+3,x4]=(wk L n 0 false (i+3) (knE E lp)).add (wk L n 0 false x4 (knE E lp)) from by show (wk L n 0 false (i+3) (knE E lp)).add ((wk L n 0 false x4 (knE E lp)).add Ot.none)=_;rw [Ot.add_none],← Ot.add_assoc] at this
  exact this
 have HC:Hid (∀ (S1:Nat→Prop) (U1:Nat) (W:World),(U1:Int)≤x5→St S1 c a cap L E ((F.add (wk L n 0 false (i+3) (knE E lp))).add (wk L n 0 false x4 (knE E lp))) U1 W→Calls Tryz.prog 145 #[.pointer (some ⟨c,0,none⟩),.int .i64 (i+2),.int .i64 x5] W fun r w'=>r=.returned (.tuple #[])∧∃ S' U',St S' c a cap L E (F.add (wk L (n+1) 0 false i (knE E lp))) U' w'∧Nxt S1 S' W w'∧(U':Int)≤itemE L x5):=fun S1 U1 W hU1 hW=>by
  have:=readTurn_any hR S1 E _ U1 (i+2) x5 W hW (by omega) n2 n5 (by omega) hE hU1
  rw [knE_names E [i+2] lp true] at this
  rw [HW.out,← Ot.add_assoc,← Ot.add_assoc]
  exact this
 have hk1:(1:Int)≤(k:Int):=by omega
 have hk3:(3:Int) < (k:Int):=by omega
 have hk0:(0:Int) < (k:Int):=by omega
 clear HW n1 n3 n4 n5 hx2 hx3 hx4 hup hf hf5
 have HPP:Hid (∀ W,ArgT W a L→Calls Tryz.prog 118 #[.slice a L.length cap,.int .i64 i] W fun r W'=>∃ av cv,r=.returned (.slice av k cv)∧k≤cv∧RowN W.heap.size W' av (chainP L k (i+2))∧Below W.heap.size W W'):=fun W hA=>partsOf_any _ cap L _ e k (by omega) hsg hv ho hch he0 he1 he W hA
 have bhidden:((sgAt L (i+1)).toList == [104,105,100,100,101,110])=false:=isW_other hc (by decide)
 have bvars:((sgAt L (i+1)).toList == [118,97,114,115])=false:=isW_other hc (by decide)
 have blet:((sgAt L (i+1)).toList == [108,101,116])=false:=isW_other hc (by decide)
 have btake:((sgAt L (i+1)).toList == [116,97,107,101])=false:=isW_other hc (by decide)
 have bset:((sgAt L (i+1)).toList == [115,101,116])=false:=isW_other hc (by decide)
 have bhget:((sgAt L (i+1)).toList == [104,103,101,116])=false:=isW_other hc (by decide)
 have bhput:((sgAt L (i+1)).toList == [104,112,117,116])=false:=isW_other hc (by decide)
 have bfn:((sgAt L (i+1)).toList == [102,110])=false:=isW_other hc (by decide)
 have bdo:((sgAt L (i+1)).toList == [100,111])=false:=isW_other hc (by decide)
 have bwhile:((sgAt L (i+1)).toList == [119,104,105,108,101])=false:=isW_other hc (by decide)
 have bfor:((sgAt L (i+1)).toList == [102,111,114])=true:=hc
 have b40:((sgAt L i).toList == [40])=true:=ho
 obtain ⟨⟨x,hM,hS⟩,hA⟩:=id h
 obtain ⟨sb,off,rfl,hsc,hsm,hsz,hsn⟩:=hA.at (i:=i) (by omega) (by omega)
 obtain ⟨sb1,off1,hsa,hsc1,hsm1,hsz1,hsn1⟩:=hA.at (i:=i+1) (by omega) (by omega)
 injection hsa with hsa
 injection hsa with ea eb _
 subst ea eb
 have hc0:=hM.c0
 have hlow:=hM.low
 have hAT:=hA.arg
 obtain ⟨ii,hii⟩:∃ ii:Nat,i=(ii:Int):=⟨i.toNat,by omega⟩
 have hwr:IntKind.i64.wrap (i+1)=i+1:=IntWalk.i64_in _ (by omega)
 have hp0:(0:Int)≤i+1:=by omega
 have hp1:i+1 < (L.length:Int):=by omega
 have hq0:(0:Int)≤i:=by omega
 have hq1:i < (L.length:Int):=by omega
 clear hii hM hS hit hke
 generalize hg40:sgAt L i=s40 at hsc hsm b40
 generalize hg1:sgAt L (i+1)=s1 at hsc1 hsm1 bhidden bvars blet btake bset bhget bhput bfn bdo bwhile bfor
 clear hg40 hg1 hc ho
 go_enter Tryz.func120,Tryz.ntmps120
 go_wp2_with fail
 refine (HPP.out _ hAT).mono ?_
 rintro r w1 ⟨av,cv,rfl,hcv,hRN,hB1⟩
 have hSt1:=h.call hB1
 have hN1:=Nxt.of_below S hB1
 have hc01:=(hB1.cell (p:=⟨c,0,none⟩) (by obtain ⟨⟨x,hM,_⟩,_⟩:=h;exact hM.lt)).trans hc0
 have hsc11:=(hB1.cell (p:=⟨sb,off+(i+1).toNat,none⟩) hsz1).trans hsc1
 have hRI:=hRN.row (fun k hk=>(hlow k hk).2)
 clear hRN HPP hc0 hsc hsc1 h hAT hA hlow hB1
 rw [HP.out] at hRI
 obtain ⟨g,og,rfl,_,_,_⟩:=hRI 0 (by simp)
 have hkc:(k:Int)≤(cv:Int):=by omega
 have hc4:(4:Int)≤(cv:Int):=by omega
 have hcv1:cv≠1:=by omega
 have hc3:(3:Int)≤(cv:Int):=by omega
 have HX:Hid (RowI S w1 (some ⟨g,og+1,none⟩) [i+3,x4]):=fun j hj=>by
  have hj2:j < 2:=hj
  rcases (by omega:j=0∨j=1) with rfl | rfl
  ·exact hRI.tail 0 (by simp)
  ·exact hRI.tail 1 (by simp)
 have HRI:Hid (RowI S w1 (some ⟨g,og,none⟩) ((i+2) :: (i+3) :: x4 :: x5 :: chainP L (k - 4) (itemE L x5))):=hRI
 clear hRI HP
 go_wp2_with fail
 refine (HU1.out _ _ _ hSt1 HX.out).mono ?_
 rintro r w2 ⟨rfl,S2,U2,hSt2,hN2,hU2⟩
 have hR2:=HRI.out.nxt hN2
 have hN:=hN1.trans hN2
 have hcell0':w2.cell? ⟨g,og,none⟩=some (.int .i64 (i+2)):=by
  obtain ⟨gg,oo,hga,_,_,hgg⟩:=hR2 0 (by simp)
  injection hga with hga
  injection hga with e1 e2 _
  subst e1 e2
  exact hgg
 have hcell3':w2.cell? ⟨g,og+3,none⟩=some (.int .i64 x5):=by
  obtain ⟨gg,oo,hga,_,_,hgg⟩:=hR2 3 (by simp)
  injection hga with hga
  injection hga with e1 e2 _
  subst e1 e2
  exact hgg
 have hStd:=hSt2.call ((Below.refl w2.heap.size w2).drew)
 have HCC:=HC.out S2 U2 w2.drew hU2 hStd
 clear HC HU1 HX HRI hR2 hSt1 hSt2
 go_upto_region 26 with fail
 first | go_region_with (refine HCC.mono ?_;rintro r w3 ⟨rfl,S3,U3,hSt3,hN3,hU3⟩) | fail
 all_goals go_wp2
 all_goals go_end0
 all_goals exact ⟨rfl,S3,U3,hSt3,hN.trans ⟨hN3.os,hN3.tape,hN3.output,hN3.size,hN3.block,hN3.sub⟩,by omega⟩
end Q
end Go.Proofs.YtdgihicpjonjgaaGreatDoor
namespace Go.Proofs.YtdgihicpjonjgaaGreatDoor
open Go.RowKit
namespace Q
set_option maxRecDepth 100000 in
set_option maxHeartbeats 4000000 in
theorem read_form0 {a:Option Addr} {cap:Nat} {L:List ByteArray} {c n:Nat} (hL:L.length≤2000) (S:Nat→Prop) (E:Blks) (lp:Bool) (F:Ot) (U:Nat) (i:Int) (w:World) (h:St S c a cap L E F U w) (hv:ItV L i) (ho:isW (sgAt L i) [40]=false) (hU:(U:Int)≤i) :
  Calls Tryz.prog 120 #[.pointer (some ⟨c,0,none⟩),.int .i64 i,.bool lp] w fun r w'=>r=.returned (.tuple #[])∧∃ S' U',St S' c a cap L E (F.add (wk L (n+1) 0 false i (knE E lp))) U' w'∧Nxt S S' w w'∧(U':Int)≤itemE L i:=by
 have hends:=hv.ends
 have HW:Hid (wk L (n+1) 0 false i (knE E lp)=if nmB (sgAt L i) then useO L (knE E lp) i else Ot.none):=itw_alone (wk L n) (knE E lp) ho
 have HC:=readAlone_any S c a cap L E lp F U i w h hL hv ho hU
 rw [← HW.out] at HC
 have HC':Hid (Calls Tryz.prog 142 #[.pointer (some ⟨c,0,none⟩),.int .i64 i] w fun e w'=>e=.returned (.tuple #[])∧∃ S' U',St S' c a cap L E (F.add (wk L (n+1) 0 false i (knE E lp))) U' w'∧Nxt S S' w w'∧(U':Int)≤itemE L i):=HC
 have b40:((sgAt L i).toList == [40])=false:=ho
 obtain ⟨⟨x,hM,hS⟩,hA⟩:=h
 obtain ⟨sb,off,rfl,hsc,hsm,hsz,hsn⟩:=hA.at (i:=i) (by omega) (by omega)
 have hc0:=hM.c0
 have hq0:(0:Int)≤i:=by omega
 have hq1:i < (L.length:Int):=by omega
 clear HC HW hM hS hA ho hv
 generalize hg40:sgAt L i=s40 at hsc hsm b40
 clear hg40
 go_enter Tryz.func120,Tryz.ntmps120
 go_wp2_with fail
 refine HC'.out.mono ?_
 rintro r w2 ⟨rfl,S2,U2,hSt2,hN2,hU2⟩
 clear HC'
 go_wp2
 refine bodyPost_ret (results_none rfl _ _ _) rfl ?_
 exact ⟨rfl,S2,U2,hSt2,hN2,hU2⟩
theorem read_any {a:Option Addr} {cap:Nat} {L:List ByteArray} {c n:Nat} (hR:ReadC a cap L c n) (hK:RBlkC a cap L c n) (hL:L.length≤2000) (hsg:signsB L=true):ReadC a cap L c (n+1):=fun S E lp F U i w h hv hn hE hU=>by
 cases ho:isW (sgAt L i) [40]
 ·exact read_form0 hL S E lp F U i w h hv ho hU
 cases h1:isW (sgAt L (i+1)) [104,105,100,100,101,110]
 ·cases h2:isW (sgAt L (i+1)) [118,97,114,115]
  ·cases h3:isW (sgAt L (i+1)) [108,101,116]
   ·cases h4:isW (sgAt L (i+1)) [116,97,107,101]
    ·cases h5:isW (sgAt L (i+1)) [115,101,116]
     ·cases h6:isW (sgAt L (i+1)) [104,103,101,116]
      ·cases h7:isW (sgAt L (i+1)) [104,112,117,116]
       ·cases h8:isW (sgAt L (i+1)) [102,110]
        ·cases h9:isW (sgAt L (i+1)) [100,111]
         ·cases h10:isW (sgAt L (i+1)) [119,104,105,108,101]
          ·cases h11:isW (sgAt L (i+1)) [102,111,114]
           ·cases h12:isW (sgAt L (i+1)) [108,101,97,118,101]
            ·cases h13:isW (sgAt L (i+1)) [110,101,120,116]
             ·exact read_rest hR hK hL hsg S E lp F U i w h hv ho h1 h2 h3 h4 h5 h6 h7 h8 h9 h10 h11 h12 h13 hn hE hU
             ·exact read_next hR hK hL hsg S E lp F U i w h hv ho h13 hn hE hU
            ·exact read_leave hR hK hL hsg S E lp F U i w h hv ho h12 hn hE hU
           ·exact read_for hR hK hL hsg S E lp F U i w h hv ho h11 hn hE hU
          ·exact read_while hR hK hL hsg S E lp F U i w h hv ho h10 hn hE hU
         ·exact read_do hR hK hL hsg S E lp F U i w h hv ho h9 hn hE hU
        ·exact read_fn hR hK hL hsg S E lp F U i w h hv ho h8 hn hE hU
       ·exact read_hput hR hK hL hsg S E lp F U i w h hv ho h7 hn hE hU
      ·exact read_hget hR hK hL hsg S E lp F U i w h hv ho h6 hn hE hU
     ·exact read_set hR hK hL hsg S E lp F U i w h hv ho h5 hn hE hU
    ·exact read_take hR hK hL hsg S E lp F U i w h hv ho h4 hn hE hU
   ·exact read_let hR hK hL hsg S E lp F U i w h hv ho h3 hn hE hU
  ·exact read_vars hR hK hL hsg S E lp F U i w h hv ho h2 hn hE hU
 ·exact read_hidden hR hK hL hsg S E lp F U i w h hv ho h1 hn hE hU
theorem reads_any {a:Option Addr} {cap:Nat} {L:List ByteArray} {c:Nat} (hL:L.length≤2000) (hsg:signsB L=true):∀ n,ReadC a cap L c n∧RBlkC a cap L c n
 | 0=>⟨fun _ _ _ _ _ _ _ _ _ hn=>by omega,fun _ _ _ _ _ _ _ _ _ _ _ _ _ _ _ _ _ _ hn=>by omega⟩
 | n+1=>by
  obtain ⟨h1,h2⟩:=reads_any hL hsg n
  exact ⟨read_any h1 h2 hL hsg,readBlock_any h1 hL hsg⟩
end Q
end Go.Proofs.YtdgihicpjonjgaaGreatDoor
namespace Go.Proofs.YtdgihicpjonjgaaGreatDoor
open Go.RowKit
namespace Q
theorem st_first {w:World} {a:Option Addr} {cap:Nat} {L:List ByteArray} (ht:Tab w) (hA:ArgT w a L) (z:Array Value) :
  St (fun k=>k=w.heap.size+1) (w.heap.size+1) a cap L [] Ot.none 0 ((w.alloc (.cells z 45)).alloc (.cells #[.slice a L.length cap,.slice none 0 0,.int .i64 0,.slice none 0 0,.bool false,.bool false,.bool false,.bool false] 45)):=by
 obtain ⟨W,hW⟩:∃ W,W=w.alloc (.cells z 45):=⟨_,rfl⟩
 have hz:W.heap.size=w.heap.size+1:=by rw [hW];simp
 have hBW:Below w.heap.size w W:=by rw [hW];exact balloc (Below.refl _ _) _
 rw [← hW,← hz]
 obtain ⟨W2,hW2⟩:∃ W2,W2=W.alloc (.cells #[.slice a L.length cap,.slice none 0 0,.int .i64 0,.slice none 0 0,.bool false,.bool false,.bool false,.bool false] 45):=⟨_,rfl⟩
 have hnew:W2.heap[W.heap.size]?=some (.cells #[.slice a L.length cap,.slice none 0 0,.int .i64 0,.slice none 0 0,.bool false,.bool false,.bool false,.bool false] 45):=by rw [hW2];exact heap_alloc_new W _
 have hz2:W2.heap.size=W.heap.size+1:=by rw [hW2];simp
 have hB2:Below W.heap.size W W2:=by rw [hW2];exact balloc (Below.refl _ _) _
 rw [← hW2]
 have hcell:∀ o,W2.cell? ⟨W.heap.size,o,none⟩=#[Value.slice a L.length cap,.slice none 0 0,.int .i64 0,.slice none 0 0,.bool false,.bool false,.bool false,.bool false][o]?:=fun o=>by simp [World.cell?,hnew]
 have hBw:=bstep hBW hB2
 refine ⟨⟨⟨.slice none 0 0,.slice none 0 0,[],[],false,false,false,false⟩,?_,?_⟩,?_,?_⟩
 ·exact { lt:=by omega,own:=rfl,c0:=hcell 0,c1:=hcell 1,c2:=hcell 2,c3:=hcell 3,c4:=hcell 4,c5:=hcell 5,c6:=hcell 6,c7:=hcell 7,fz:=fun o=>by simp [World.frozen?,hnew],rowB:=World.ownsRow_nil _ _ _ _,rowU:=World.ownsRow_nil _ _ _ _,inb:=fun g hg=>by simp [Value.ownBlock] at hg,inu:=fun g hg=>by simp [Value.ownBlock] at hg,apart:=fun g hg=>by simp [Value.ownBlock] at hg,maps:=fun j hj=>absurd hj (Nat.not_lt_zero _),nodup:=List.nodup_nil,enough:=Nat.le_refl _,low:=fun k hk=>by omega,few:=Nat.zero_le _ }
 ·exact ⟨rfl,rfl,rfl,Nat.le_refl _,fun u hu=>by cases hu⟩
 ·intro i hi
  obtain ⟨sb,off,h1,h2,h3,h4⟩:=hA i hi
  exact ⟨sb,off,h1,by have:=hBw.size;omega,by omega,(hBw.cell (p:=⟨sb,off+i,none⟩) h2).trans h3,h4⟩
 ·intro S' W' hN
  have hb:=hN.below (n0:=w.heap.size) (fun k hk=>by omega) (by omega)
  exact tab_call ht (hBw.trans hb)
set_option maxRecDepth 100000 in
set_option maxHeartbeats 4000000 in
theorem readPlay_any (a:Option Addr) (cap:Nat) (L:List ByteArray) (w:World) (ht:Tab w) (hA:ArgT w a L) (hp:playB L=true) :
  Calls Tryz.prog 28 #[.slice a L.length cap] w fun r w'=>∃ (x:RdX) (U:Nat),r=.returned (.agg #[.slice a L.length cap,x.vb,.int .i64 0,x.vu,.bool x.fu,.bool x.ft,.bool x.fo,.bool x.fv])∧w'.ownsRow w.heap.size 108 3 x.vu x.us.length (flatU x.us)∧SaidR L x (findO L) U∧U≤L.length∧Below w.heap.size w w':=by
 have hL:=play_len' hp
 have hsg:=play_signs hp
 obtain ⟨k,hch⟩:=play_deeds hp
 have hcI:=chI_V k 0 (chain_deeds k 0 hch).1
 have hK:=(reads_any (a:=a) (cap:=cap) (c:=w.heap.size+1) hL hsg (8 * L.length+40)).2
 have hfz:=far_zero L
 have HK:Hid (∀ ad cd (S:Nat→Prop) W,St S (w.heap.size+1) a cap L [] Ot.none 0 W→RowI S W ad (chainP L k 0)→Calls Tryz.prog 42 #[.pointer (some ⟨w.heap.size+1,0,none⟩),.slice ad k cd,.bool true,.bool false] W fun r w'=>r=.returned (.tuple #[])∧∃ S' U',St S' (w.heap.size+1) a cap L [] (findO L) U' w'∧Nxt S S' W w'∧(U':Int)≤(L.length:Int)):=fun ad cd S W hW hX=>by
  have:=hK S [] false true Ot.none 0 0 (L.length:Int) k ad cd W hW hX hch (Or.inl rfl) (by omega) (Int.le_refl _) (by omega) (by simp;omega) (by omega)
  rw [Ot.none_add] at this
  exact this
 have HDO:Hid (∀ W,ArgT W a L→Calls Tryz.prog 43 #[.slice a L.length cap] W fun e W'=>∃ v,e=.returned v∧OwnI W' W.heap.size v (chainP L k 0)∧Below W.heap.size W W'):=fun W hA=>deedsOf_any a cap L k (by omega) hsg hcI W hA
 have hzr:(zeroValue 45).run Tryz.prog w=.ok (.agg #[.slice none 0 0,.slice none 0 0,.int .i64 0,.slice none 0 0,.bool false,.bool false,.bool false,.bool false]) w:=by kernel_rfl
 obtain ⟨W2,hW2⟩:∃ W2,W2=(w.alloc (.cells #[.slice none 0 0,.slice none 0 0,.int .i64 0,.slice none 0 0,.bool false,.bool false,.bool false,.bool false] 45)).alloc (.cells #[.slice a L.length cap,.slice none 0 0,.int .i64 0,.slice none 0 0,.bool false,.bool false,.bool false,.bool false] 45):=⟨_,rfl⟩
 have hSt2:=st_first (cap:=cap) ht hA #[.slice none 0 0,.slice none 0 0,.int .i64 0,.slice none 0 0,.bool false,.bool false,.bool false,.bool false]
 rw [← hW2] at hSt2
 have hB2:Below w.heap.size w W2:=by rw [hW2];exact balloc (balloc (Below.refl _ _) _) _
 have hz2:W2.heap.size=w.heap.size+2:=by rw [hW2];simp
 have hbox:∀ o,o < 8→∃ v,W2.cell? ⟨w.heap.size,o,none⟩=some v:=fun o ho=>by
  have hh:W2.heap[w.heap.size]?=some (.cells #[.slice none 0 0,.slice none 0 0,.int .i64 0,.slice none 0 0,.bool false,.bool false,.bool false,.bool false] 45):=by rw [hW2,Below.heap_alloc _ _ _ (by simp)];exact heap_alloc_new w _
  simp only [World.cell?,hh]
  match o,ho with
  | 0,_ | 1,_ | 2,_ | 3,_ | 4,_ | 5,_ | 6,_ | 7,_=>exact ⟨_,rfl⟩
 have hboxf:∀ o,W2.frozen? ⟨w.heap.size,o,none⟩=false:=fun o=>by
  have hh:W2.heap[w.heap.size]?=some (.cells #[.slice none 0 0,.slice none 0 0,.int .i64 0,.slice none 0 0,.bool false,.bool false,.bool false,.bool false] 45):=by rw [hW2,Below.heap_alloc _ _ _ (by simp)];exact heap_alloc_new w _
  simp [World.frozen?,hh]
 clear hK hch hcI
 go_enter Tryz.func28,Tryz.ntmps28
 go_wp2_with fail
 rw [← hW2]
 clear hW2
 refine (HDO.out _ (hA.call hB2)).mono ?_
 rintro r w3 ⟨v,rfl,hO,hb3⟩
 obtain ⟨av,cv,rfl,hcv,hRI⟩:=hO.row (S:=fun k=>k=w.heap.size+1) (fun k hk=>by omega)
 rw [chP_len] at hcv ⊢
 have hSt3:=hSt2.call hb3
 clear HDO hO hSt2
 go_wp2_with fail
 refine (HK.out _ _ _ _ hSt3 hRI).mono ?_
 rintro r w4 ⟨rfl,S4,U4,hSt4,hN4,hU4⟩
 have hkeep:w4.heap[w.heap.size]?=W2.heap[w.heap.size]?:=(hN4.block w.heap.size (by have:=hb3.size;omega) (by omega)).trans (hb3.block _ (by omega))
 have hc4:∀ o,o < 8→∃ v,w4.cell? ⟨w.heap.size,o,none⟩=some v:=fun o ho=>by rw [World.cell?_of_block (w:=W2) (a:=⟨w.heap.size,o,none⟩) hkeep];exact hbox o ho
 have hf4:∀ o,w4.frozen? ⟨w.heap.size,o,none⟩=false:=fun o=>by rw [World.frozen?_of_block (w:=W2) (a:=⟨w.heap.size,o,none⟩) hkeep];exact hboxf o
 have hB4:Below w.heap.size w w4:=(bstep hB2 hb3).trans (hN4.below (fun k hk=>by omega) (by have:=hb3.size;omega))
 obtain ⟨⟨x,hM,hS⟩,hA4⟩:=hSt4
 clear hbox hboxf hkeep HK hRI hSt3 hN4 hb3 hB2 hA4
 obtain ⟨u0,k0⟩:=hc4 0 (by decide)
 obtain ⟨u1,k1⟩:=hc4 1 (by decide)
 obtain ⟨u2,k2⟩:=hc4 2 (by decide)
 obtain ⟨u3,k3⟩:=hc4 3 (by decide)
 obtain ⟨u4,k4⟩:=hc4 4 (by decide)
 obtain ⟨u5,k5⟩:=hc4 5 (by decide)
 obtain ⟨u6,k6⟩:=hc4 6 (by decide)
 obtain ⟨u7,k7⟩:=hc4 7 (by decide)
 have f0:=hf4 0
 have f1:=hf4 1
 have f2:=hf4 2
 have f3:=hf4 3
 have f4:=hf4 4
 have f5:=hf4 5
 have f6:=hf4 6
 have f7:=hf4 7
 have c0:=hM.c0
 have c1:=hM.c1
 have c2:w4.cell? ⟨w.heap.size+1,2,none⟩=some (.int .i64 0):=hM.c2
 have c3:=hM.c3
 have c4:=hM.c4
 have c5:=hM.c5
 have c6:=hM.c6
 have c7:=hM.c7
 have HO:Hid (w4.ownsRow (w.heap.size+1+1) 108 3 x.vu x.us.length (flatU x.us)):=hM.rowU
 obtain ⟨ab,cb,hvb,_,_,_,_⟩:=own_shape hM.rowB
 obtain ⟨au,cu,hvu,_,_,_,_⟩:=own_shape hM.rowU
 have HVB:Hid (x.vb=.slice ab x.bs.length cb):=hvb
 have HVU:Hid (x.vu=.slice au x.us.length cu):=hvu
 rw [hvb] at c1
 rw [hvu] at c3
 clear hc4 hf4 hM hvb hvu
 go_wp2
 refine bodyPost_ret (v:=.agg #[.slice a L.length cap,.slice ab x.bs.length cb,.int .i64 0,.slice au x.us.length cu,.bool x.fu,.bool x.ft,.bool x.fo,.bool x.fv]) (by simp [results,Tryz.results28,go_sem,k0,k1,k2,k3,k4,k5,k6,k7]) rfl ?_
 refine ⟨x,U4,by rw [HVB.out,HVU.out],?_,hS,by omega,?_⟩
 ·refine own_low (own_kept HO.out (fun g hg=>?_)) (by omega)
  have hne:g≠w.heap.size:=by have:=(World.ownsRow.lt HO.out g hg).1;omega
  simp only [Below.heap_setCell _ _ _ _ (show g≠(⟨w.heap.size,_,none⟩:Addr).block from hne)]
 ·exact (((((((hB4.setCell (p:=⟨w.heap.size,0,none⟩) (Nat.le_refl _) _).setCell (p:=⟨w.heap.size,1,none⟩) (Nat.le_refl _) _).setCell (p:=⟨w.heap.size,2,none⟩) (Nat.le_refl _) _).setCell (p:=⟨w.heap.size,3,none⟩) (Nat.le_refl _) _).setCell (p:=⟨w.heap.size,4,none⟩) (Nat.le_refl _) _).setCell (p:=⟨w.heap.size,5,none⟩) (Nat.le_refl _) _).setCell (p:=⟨w.heap.size,6,none⟩) (Nat.le_refl _) _).setCell (p:=⟨w.heap.size,7,none⟩) (Nat.le_refl _) _
end Q
end Go.Proofs.YtdgihicpjonjgaaGreatDoor
