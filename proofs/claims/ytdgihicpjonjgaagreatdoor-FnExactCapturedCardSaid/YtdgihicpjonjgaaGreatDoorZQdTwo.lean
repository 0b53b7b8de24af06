import Derived.Test.YtdgihicpjonjgaaGreatDoorZRdTwo
import Derived.Test.YtdgihicpjonjgaaGreatDoorZQdOne
import Derived.Test.YtdgihicpjonjgaaGreatDoorZRdThree
namespace Go.Proofs.YtdgihicpjonjgaaGreatDoor
open Go.RowKit
namespace Q
theorem knE_names (E:Blks) (X:List Int) (lp lq:Bool):knE (E++[(X,[])]) lq=inLoop (addN (knE E lp) X) lq:=rfl
theorem usO_name (L:List ByteArray) (E:Blks) (lp:Bool) (i:Int):usO L false E i=useO L (knE E lp) i:=rfl
theorem usO_hide (L:List ByteArray) (E:Blks) (lp:Bool) (i:Int):usO L true E i=hideO L (knE E lp) i:=rfl
theorem outs_drop (f:Int→Ot) (ps:List Int) {m:Nat} (h:m < ps.length):outs f (ps.drop m)=(f ps[m]).add (outs f (ps.drop (m+1))):=by
 rw [List.drop_eq_getElem_cons h]
 rfl
def ReadC (a:Option Addr) (cap:Nat) (L:List ByteArray) (c n:Nat):Prop:=∀ (S:Nat→Prop) (E:Blks) (lp:Bool) (F:Ot) (U:Nat) (i:Int) (w:World),St S c a cap L E F U w→ItV L i→2 * farN L i+1≤n→E.length+n≤20000→(U:Int)≤i →
 Calls Tryz.prog 120 #[.pointer (some ⟨c,0,none⟩),.int .i64 i,.bool lp] w fun r w'=>r=.returned (.tuple #[])∧∃ S' U',St S' c a cap L E (F.add (wk L n 0 false i (knE E lp))) U' w'∧Nxt S S' w w'∧(U':Int)≤itemE L i
def RBlkC (a:Option Addr) (cap:Nat) (L:List ByteArray) (c n:Nat):Prop:=∀ (S:Nat→Prop) (E:Blks) (lp v:Bool) (F:Ot) (U:Nat) (i e:Int) (k:Nat) (ad:Option Addr) (cd:Nat) (w:World),St S c a cap L E F U w→RowI S w ad (chainP L k i)→chainD L k i e→endB L e→0≤e→e≤(L.length:Int)→2 * farN L i+2≤n→E.length+n≤20000→(U:Int)≤i →
 Calls Tryz.prog 42 #[.pointer (some ⟨c,0,none⟩),.slice ad k cd,.bool v,.bool lp] w fun r w'=>r=.returned (.tuple #[])∧∃ S' U',St S' c a cap L E (F.add (wk L n 1 v i (knE E lp))) U' w'∧Nxt S S' w w'∧(U':Int)≤e
set_option maxHeartbeats 2000000 in
theorem readAll_any {a:Option Addr} {cap:Nat} {L:List ByteArray} {c n:Nat} (hR:ReadC a cap L c n) (S:Nat→Prop) (E:Blks) (lp:Bool) (F:Ot) (U:Nat) (i e:Int) (X:List Int) (ad:Option Addr) (kx cd:Nat) (w:World) (hkx:kx=X.length) (h:St S c a cap L E F U w) (hX:RowI S w ad X) (hup:UpL L X i e) (hi0:0≤i) (hl:X.length≤1048576) (hn:2 * farN L i+1≤n) (hE:E.length+n≤20000) (hU:(U:Int)≤i) :
  Calls Tryz.prog 88 #[.pointer (some ⟨c,0,none⟩),.slice ad kx cd,.bool lp] w fun r w'=>r=.returned (.tuple #[])∧∃ S' U',St S' c a cap L E (F.add (outs (fun p=>wk L n 0 false p (knE E lp)) X)) U' w'∧Nxt S S' w w'∧(U':Int)≤e:=by
 subst hkx
 go_enter Tryz.func88,Tryz.ntmps88
 go_wp2
 go_loopw [10] (fun v10 wr=>∃ (m:Nat) (G:Ot) (Sr:Nat→Prop) (Ur:Nat) (j:Int),v10=.int .i64 (m:Int)∧m≤X.length∧St Sr c a cap L E G Ur wr∧Nxt S Sr w wr∧i≤j∧(Ur:Int)≤j∧UpL L (X.drop m) j e∧Hid (G.add (outs (fun p=>wk L n 0 false p (knE E lp)) (X.drop m))=F.add (outs (fun p=>wk L n 0 false p (knE E lp)) X))) (fun v10 _=>X.length - (intOf v10).toNat)
 case atStart=>exact ⟨0,F,S,U,i,rfl,Nat.zero_le _,h,Nxt.refl S w,Int.le_refl _,hU,hup,rfl⟩
 case round =>
  obtain ⟨m,G,Sr,Ur,j,rfl,hm,hSt,hN,hij,hUj,hupm,HG⟩:=hrel
  by_cases hlt:m < X.length
  ·obtain ⟨sb,off,rfl,hsb,_,hc⟩:=(hX.nxt hN) m hlt
   rw [List.drop_eq_getElem_cons hlt] at hupm
   obtain ⟨u1,u2,u3⟩:=hupm
   have hfar:=farR_le (L:=L) hi0 (by omega:i≤X[m])
   have HC:=hR Sr E lp G Ur X[m] wr hSt u2 (by omega) hE (by omega)
   have HC':Hid (Calls Tryz.prog 120 #[.pointer (some ⟨c,0,none⟩),.int .i64 X[m],.bool lp] wr fun r w'=>r=.returned (.tuple #[])∧∃ S' U',St S' c a cap L E (G.add (wk L n 0 false X[m] (knE E lp))) U' w'∧Nxt Sr S' wr w'∧(U':Int)≤itemE L X[m]):=HC
   have HG2:Hid ((G.add (wk L n 0 false X[m] (knE E lp))).add (outs (fun p=>wk L n 0 false p (knE E lp)) (X.drop (m+1)))=F.add (outs (fun p=>wk L n 0 false p (knE E lp)) X)):=(by rw [← HG.out,outs_drop _ _ hlt,Ot.add_assoc]:(G.add (wk L n 0 false X[m] (knE E lp))).add (outs (fun p=>wk L n 0 false p (knE E lp)) (X.drop (m+1)))=F.add (outs (fun p=>wk L n 0 false p (knE E lp)) X))
   have hends:=u2.ends
   clear HC HG hfar
   generalize X[m]=p at *
   go_wp2_with fail
   refine HC'.out.mono ?_
   rintro r w2 ⟨rfl,S2,U2,hSt2,hN2,hU2⟩
   have hN3:=hN.trans hN2
   clear HC'
   go_wp2
   go_roundw
   case rel=>exact ⟨m+1,_,S2,U2,itemE L p,by go_num,by omega,hSt2,hN3,by omega,hU2,u3,HG2.out⟩
   case measure=>simp [intOf];omega
  ·have e1:m=X.length:=by omega
   subst e1
   rw [List.drop_length] at hupm
   have hj:j≤e:=hupm
   have HG2:Hid (G=F.add (outs (fun p=>wk L n 0 false p (knE E lp)) X)):=(by rw [← HG.out,List.drop_length];exact (Ot.add_none G).symm:G=F.add (outs (fun p=>wk L n 0 false p (knE E lp)) X))
   clear HG
   go_wp2
   go_end0
   exact ⟨rfl,Sr,Ur,by rw [← HG2.out];exact hSt,hN,by omega⟩
end Q
end Go.Proofs.YtdgihicpjonjgaaGreatDoor
namespace Go.Proofs.YtdgihicpjonjgaaGreatDoor
open Go.RowKit
namespace Q
def addZ (q:Bool) (Z:List Int × List Int) (N:List Int):List Int × List Int:=if q then (Z.1,Z.2++N) else (Z.1++N,Z.2)
theorem addZ_put (q:Bool) (Z:List Int × List Int) (N:List Int) (r:Nat) (h:r < N.length):putE q (addZ q Z (N.take r)) N[r]=addZ q Z (N.take (r+1)):=by
 rw [List.take_succ_eq_append_getElem h]
 cases q <;> simp [putE,addZ]
theorem addZ_nil (q:Bool) (Z:List Int × List Int):addZ q Z []=Z:=by cases q <;> simp [addZ]
def twZ (L:List ByteArray) (Z:List Int × List Int):Bool:=twP L Z.1 || twP L Z.2
theorem twZ_put (L:List ByteArray) (q:Bool) (Z:List Int × List Int) (n:Int):twZ L (putE q Z n)=(twZ L Z || inB ((sideL q Z.1 Z.2).map (sgAt L)) (sgAt L n)):=by
 unfold twZ putE sideL
 cases q
 ·simp only [Bool.false_eq_true,if_false,twP_snoc]
  cases twP L Z.1 <;> cases inB (Z.1.map (sgAt L)) (sgAt L n) <;> cases twP L Z.2 <;> rfl
 ·simp only [if_true,twP_snoc]
  cases twP L Z.1 <;> cases inB (Z.2.map (sgAt L)) (sgAt L n) <;> cases twP L Z.2 <;> rfl
theorem addZ_piece (L:List ByteArray) (p:Int) (Z:List Int × List Int):addZ (hidB L p) Z (pieceD L (hidB L p) p)=(Z.1++pieceD L false p,Z.2++pieceD L true p):=by
 unfold pieceD
 cases h:hidB L p <;> simp [addZ]
theorem piece_is (L:List ByteArray) (p:Int):pieceD L (hidB L p) p=plcD L p:=by
 unfold pieceD
 rw [if_pos rfl]
noncomputable def decZ (L:List ByteArray) (ps:List Int) (m:Nat):List Int × List Int:=((ps.take m).flatMap (pieceD L false),(ps.take m).flatMap (pieceD L true))
theorem decZ_succ (L:List ByteArray) (ps:List Int) {m:Nat} (h:m < ps.length):decZ L ps (m+1)=addZ (hidB L ps[m]) (decZ L ps m) (pieceD L (hidB L ps[m]) ps[m]):=by
 rw [addZ_piece]
 unfold decZ
 rw [List.take_succ_eq_append_getElem h,List.flatMap_append,List.flatMap_append]
 simp only [List.flatMap_cons,List.flatMap_nil,List.append_nil]
theorem varB_drop (L:List ByteArray) (v:Bool) (ps:List Int) {m:Nat} (h:m < ps.length):varB L v (ps.drop m)=((isW (sgAt L (ps[m]+1)) [118,97,114,115] && !v) || varB L false (ps.drop (m+1))):=by
 rw [List.drop_eq_getElem_cons h]
 rfl
theorem blockO_said (L:List ByteArray) (n:Nat) (v:Bool) (i:Int) (E:Blks) (lp:Bool) (F:Ot) (ps:List Int) (hps:plc L i=ps) :
  (F.add (badO (twZ L (decZ L ps ps.length) || varB L v ps))).add (outs (fun p=>wk L n 0 false p (knE (E++[decZ L ps ps.length]) lp)) ps)=F.add (wk L (n+1) 1 v i (knE E lp)):=by
 show _=F.add (blockO L (wk L n) v i (knE E lp))
 unfold blockO
 rw [hps]
 have e1:decZ L ps ps.length=(ps.flatMap (pieceD L false),ps.flatMap (pieceD L true)):=by unfold decZ;rw [List.take_length]
 rw [e1,Ot.add_assoc]
 rfl
set_option maxRecDepth 100000 in
set_option maxHeartbeats 8000000 in
theorem readBlock_any {a:Option Addr} {cap:Nat} {L:List ByteArray} {c n:Nat} (hR:ReadC a cap L c n) (hL:L.length≤2000) (hsg:signsB L=true):RBlkC a cap L c (n+1):=fun S E lp v F U i e k ad cd w h hX hch hend he0 he1 hn hE hU=>by
 have hcv:=(chain_deeds k i hch).1
 have hce:=chainV_ends k i hcv he0
 have hup:=upL_chain k i hcv
 have hlt:=chainP_lt k i hcv he0
 have HDL:Hid (∀ p∈chainP L k i,fm L 1 p≠-1):=chain_dl k i hch
 have HPL:Hid (plc L i=chainP L k i):=plc_chain hcv he0 he1 hend
 have hkl:=chP_len L k i
 have HSAID:Hid (∀ X,plc L i=X→(F.add (badO (twZ L (decZ L X X.length) || varB L v X))).add (outs (fun p=>wk L n 0 false p (knE (E++[decZ L X X.length]) lp)) X)=F.add (wk L (n+1) 1 v i (knE E lp))):=fun X hX=>blockO_said L n v i E lp F X hX
 obtain ⟨X,hXe⟩:∃ X,X=chainP L k i:=⟨_,rfl⟩
 rw [← hXe] at hX hup hlt HDL HPL hkl
 clear hXe hch hcv
 have HUP:Hid (UpL L X i e):=hup
 have HLT:Hid (∀ p∈X,i≤p∧p < e∧ItV L p∧itemE L p≤e):=hlt
 clear hup hlt
 have hkb:k≤2000:=by omega
 go_enter Tryz.func42,Tryz.ntmps42
 go_wp2_with fail
 refine (openBlock_any S c a cap L E F U w h (by omega)).mono ?_
 rintro r w1 ⟨rfl,S1,hSt1,hN1⟩
 have hX1:=hX.nxt hN1
 clear h hX
 go_wp2
 go_loopw [18] (fun v18 wr=>∃ (m:Nat) (b:Bool) (Sr:Nat→Prop),v18=.int .i64 (m:Int)∧m≤k∧St Sr c a cap L (E++[decZ L X m]) (F.add (badO (twZ L (decZ L X m) || b))) U wr∧Nxt S1 Sr w1 wr∧Hid ((b || varB L (vAt v m) (X.drop m))=varB L v X)) (fun v18 _=>k - (intOf v18).toNat)
 case atStart=>exact ⟨0,false,S1,rfl,Nat.zero_le _,by rw [show F.add (badO (twZ L (decZ L X 0) || false))=F from Ot.add_none F];exact hSt1,Nxt.refl S1 w1,by show (false || varB L (v && decide (0=0)) X)=varB L v X;simp⟩
 case round =>
  obtain ⟨m,b,Sr,rfl,hm,hSt,hN,HV⟩:=hrel
  by_cases hlt:m < k
  ·have hmX:m < X.length:=by omega
   obtain ⟨sb,off,rfl,hsb,_,hc⟩:=(hX1.nxt hN) m hmX
   have hpm:=List.getElem_mem hmX
   obtain ⟨p1,p2,p3,p4⟩:=HLT.out _ hpm
   have hdl:=HDL.out _ hpm
   have hlong:=deed_long hdl
   obtain ⟨hpn,hpb⟩:=plcD_piece hdl
   obtain ⟨⟨x,hM,hS⟩,hA⟩:=id hSt
   obtain ⟨sa,oa,rfl,hac,ham,haz,_⟩:=hA.at (i:=X[m]+1) (by omega) (by omega)
   have hc0:=hM.c0
   have HST:Hid (St Sr c (some ⟨sa,oa,none⟩) cap L (E++[decZ L X m]) (F.add (badO (twZ L (decZ L X m) || b))) U wr):=hSt
   have HDB:Hid (∀ W,ArgT W (some ⟨sa,oa,none⟩) L→Calls Tryz.prog 86 #[.slice (some ⟨sa,oa,none⟩) L.length cap,.int .i64 X[m]] W fun r W'=>∃ av n cv,r=.returned (.tuple #[.slice av n cv,.bool (hidB L X[m])])∧n=(plcD L X[m]).length∧RowN W.heap.size W' av (plcD L X[m])∧Below W.heap.size W W'):=fun W hA=>declaredBy_any _ cap L _ (by omega) hsg hdl W hA
   have HDZ:Hid (decZ L X (m+1)=addZ (hidB L X[m]) (decZ L X m) (plcD L X[m])):=(by rw [decZ_succ L X hmX,piece_is]:decZ L X (m+1)=addZ (hidB L X[m]) (decZ L X m) (plcD L X[m]))
   have HV2:Hid (((b || (isW (sgAt L (X[m]+1)) [118,97,114,115] && !vAt v m)) || varB L (vAt v (m+1)) (X.drop (m+1)))=varB L v X):=by
    show ((b || (isW (sgAt L (X[m]+1)) [118,97,114,115] && !vAt v m)) || varB L (vAt v (m+1)) (X.drop (m+1)))=varB L v X
    rw [← HV.out,varB_drop L (vAt v m) X hmX,Bool.or_assoc]
    congr 2
    unfold vAt
    simp
   have hYl:(plcD L X[m]).length≤2000:=by
    have e1:(plcD L X[m]).length=(Go.Proofs.YtdgihicpjonjgaaGreatDoor.pieceD L (hidB L X[m]) X[m]).length:=by rw [← hpn,List.length_map]
    have e2:=piece_len (hidB L X[m]) hdl
    omega
   clear hSt hS hM HV hpn hdl hpm
   generalize X[m]=p at hc hac ham p1 p2 p3 p4 hlong hpb HDB HDZ HV2 hYl
   obtain ⟨pp,rfl⟩:∃ pp:Nat,p=(pp:Int):=⟨p.toNat,by omega⟩
   have hwr:IntKind.i64.wrap ((pp:Int)+1)=(pp:Int)+1:=IntWalk.i64_in _ (by omega)
   have hp0:(0:Int)≤(pp:Int)+1:=by omega
   have hp1:(pp:Int)+1 < (L.length:Int):=by omega
   have hpn:((pp:Int)+1).toNat=pp+1:=by omega
   rw [hpn] at hac
   generalize sgAt L ((pp:Int)+1)=s at hac ham HV2
   have hmk:(m:Int) < (k:Int):=by omega
   go_upto_region 4 with fail
   go_cut [39] from 23 to 38 (fun v39 wc=>v39=.bool (isW s [118,97,114,115] && !vAt v m)∧wr=wc)
   case first =>
    cases hiv:isW s [118,97,114,115]
    ·have b1:(s.toList == [118,97,114,115])=false:=hiv
     have HIV:Hid (isW s [118,97,114,115]=false):=hiv
     clear hiv
     go_wp2
     go_meet
     exact ⟨by rw [HIV.out];rfl,rfl⟩
    ·have b1:(s.toList == [118,97,114,115])=true:=hiv
     have HIV:Hid (isW s [118,97,114,115]=true):=hiv
     clear hiv
     by_cases hm0:m=0
     ·subst hm0
      have HVA:Hid (vAt v 0=v):=(by simp [vAt]:vAt v 0=v)
      cases v
      ·go_wp2
       go_meet
       exact ⟨by rw [HIV.out,HVA.out];rfl,rfl⟩
      ·go_wp2
       go_meet
       exact ⟨by rw [HIV.out,HVA.out];rfl,rfl⟩
     ·have HVA:Hid (vAt v m=false):=(by simp [vAt,hm0]:vAt v m=false)
      have hpos:(0:Int) < (m:Int):=by omega
      go_wp2
      go_meet
      exact ⟨by rw [HIV.out,HVA.out];rfl,rfl⟩
   case rest =>
    obtain ⟨rfl,rfl⟩:=hcut
    generalize (isW s [118,97,114,115] && !vAt v m)=fl at HV2 ⊢
    go_upto_if 39 with fail
    go_cut [39] from 40 to 43 (fun _ wc=>St Sr c (some ⟨sa,oa,none⟩) cap L (E++[decZ L X m]) (F.add (badO (twZ L (decZ L X m) || (b || fl)))) U wc∧Nxt Sr Sr wr wc)
    case first =>
     obtain ⟨⟨x,hM,hS⟩,hA⟩:=HST.out
     cases fl
     ·have HF:Hid (St Sr c (some ⟨sa,oa,none⟩) cap L (E++[decZ L X m]) (F.add (badO (twZ L (decZ L X m) || (b || false)))) U wr):=(by rw [Bool.or_false];exact HST.out:St Sr c (some ⟨sa,oa,none⟩) cap L (E++[decZ L X m]) (F.add (badO (twZ L (decZ L X m) || (b || false)))) U wr)
      go_wp2
      go_meet
      exact ⟨HF.out,Nxt.refl Sr wr⟩
     ·have k7:=hM.c7
      have f7:=hM.fz 7
      have HF:Hid (St Sr c (some ⟨sa,oa,none⟩) cap L (E++[decZ L X m]) (F.add (badO (twZ L (decZ L X m) || (b || true)))) U (wr.setCell ⟨c,7,none⟩ (.bool true))∧Nxt Sr Sr wr (wr.setCell ⟨c,7,none⟩ (.bool true))):=by
       have hN7:=Nxt.set Sr wr (p:=⟨c,7,none⟩) (.bool true) hM.own
       have hs7:=said_bad hS true { x with fv:=true } rfl rfl (by simp)
       rw [badO_add,Bool.or_assoc] at hs7
       exact ⟨⟨⟨_,hM.flag7 true,hs7⟩,hA.nxt hN7⟩,hN7⟩
      go_wp2
      go_meet
      exact HF.out
    case rest =>
     obtain ⟨hStc,hNc⟩:=hcut
     have hNwc:=hN.trans hNc
     clear HST hc0 hac ham haz hNc hN hc hsb
     obtain ⟨⟨x,hM,hS⟩,hA⟩:=id hStc
     have hc0:=hM.c0
     have hlow:=hM.low
     go_wp2_with fail
     refine (HDB.out _ hA.arg).mono ?_
     rintro r w2 ⟨av,nn,cv,rfl,hnn,hRn,hB2⟩
     have hSt2:=hStc.call hB2
     have hN2:=hNwc.trans (Nxt.of_below Sr hB2)
     have hRI:=hRn.row (fun k hk=>(hlow k hk).2)
     have HNN:Hid (nn=(plcD L (pp:Int)).length):=hnn
     clear hStc hM hS hA hc0 hlow hRn hB2 hNwc HDB hnn
     generalize hidB L (pp:Int)=q at HDZ ⊢
     have hNb:∀ y∈plcD L (pp:Int),0≤y∧y < (L.length:Int):=fun y hy=>by have:=hpb y hy;omega
     generalize plcD L (pp:Int)=Y at HDZ HNN hRI hNb hYl
     go_wp2
     go_loopw [55] (fun v55 wr=>∃ (t:Nat) (St':Nat→Prop),v55=.int .i64 (t:Int)∧t≤Y.length∧St St' c (some ⟨sa,oa,none⟩) cap L (E++[addZ q (decZ L X m) (Y.take t)]) (F.add (badO (twZ L (addZ q (decZ L X m) (Y.take t)) || (b || fl)))) U wr∧Nxt Sr St' w2 wr) (fun v55 _=>Y.length - (intOf v55).toNat)
     case atStart =>
      refine ⟨0,Sr,rfl,Nat.zero_le _,?_,Nxt.refl Sr w2⟩
      rw [List.take_zero,addZ_nil]
      exact hSt2
     case round =>
      obtain ⟨t,S3,rfl,ht,hSt3,hN3⟩:=hrel
      by_cases htl:t < Y.length
      ·obtain ⟨sy,oy,rfl,hsy,_,hcy⟩:=(hRI.nxt hN3) t htl
       obtain ⟨y0,y1⟩:=hNb _ (List.getElem_mem htl)
       have HZ:Hid (addZ q (decZ L X m) (Y.take (t+1))=putE q (addZ q (decZ L X m) (Y.take t)) Y[t]):=(addZ_put q (decZ L X m) Y t htl).symm
       have HDE:=declare_any S3 c (some ⟨sa,oa,none⟩) cap L E (addZ q (decZ L X m) (Y.take t)).1 (addZ q (decZ L X m) (Y.take t)).2 (F.add (badO (twZ L (addZ q (decZ L X m) (Y.take t)) || (b || fl)))) U Y[t] q wr hSt3 y0 y1
       have HDE':Hid (Calls Tryz.prog 87 #[.pointer (some ⟨c,0,none⟩),.int .i64 Y[t],.bool q] wr fun e w'=>e=.returned (.tuple #[])∧St S3 c (some ⟨sa,oa,none⟩) cap L (E++[addZ q (decZ L X m) (Y.take (t+1))]) (F.add (badO (twZ L (addZ q (decZ L X m) (Y.take (t+1))) || (b || fl)))) U w'∧Nxt S3 S3 wr w'):=by
        rw [HZ.out,twZ_put]
        refine HDE.mono ?_
        rintro r w' ⟨h1,h2,h3⟩
        rw [badO_add] at h2
        refine ⟨h1,?_,h3⟩
        rw [show ((twZ L (addZ q (decZ L X m) (Y.take t)) || inB ((sideL q (addZ q (decZ L X m) (Y.take t)).1 (addZ q (decZ L X m) (Y.take t)).2).map (sgAt L)) (sgAt L Y[t])) || (b || fl))=((twZ L (addZ q (decZ L X m) (Y.take t)) || (b || fl)) || inB ((sideL q (addZ q (decZ L X m) (Y.take t)).1 (addZ q (decZ L X m) (Y.take t)).2).map (sgAt L)) (sgAt L Y[t])) from bool_swap _ _ _]
        exact h2
       clear HDE HZ hSt3
       generalize Y[t]=y at hcy HDE' y0 y1
       have htk:(t:Int) < (nn:Int):=by rw [HNN.out];omega
       go_wp2_with fail
       refine HDE'.out.mono ?_
       rintro r w4 ⟨rfl,hSt4,hN4⟩
       have hN5:=hN3.trans hN4
       clear HDE'
       go_wp2
       go_roundw
       case rel=>exact ⟨t+1,S3,by go_num,by omega,hSt4,hN5⟩
       case measure=>simp [intOf];omega
      ·have e1:t=Y.length:=by omega
       have HT:Hid (St S3 c (some ⟨sa,oa,none⟩) cap L (E++[decZ L X (m+1)]) (F.add (badO (twZ L (decZ L X (m+1)) || (b || fl)))) U wr):=by
        rw [e1,List.take_of_length_le (Nat.le_refl _),← HDZ.out] at hSt3
        exact hSt3
       have hN5:=hN2.trans hN3
       have htk:¬ (t:Int) < (nn:Int):=by rw [HNN.out];omega
       clear hSt3 e1
       go_wp2
       go_roundw
       case rel=>exact ⟨m+1,b || fl,S3,by go_num,by omega,HT.out,hN5,HV2.out⟩
       case measure=>simp [intOf];omega
  ·have e1:m=k:=by omega
   subst e1
   have HB:b=varB L v X:=by
    have:=HV.out
    rw [List.drop_of_length_le (by omega)] at this
    simpa [varB] using this
   rw [HB] at hSt
   clear HB HV
   have hXr:=hX1.nxt hN
   have HSD:=HSAID.out X HPL.out
   rw [hkl] at HSD
   have HSD':Hid ((F.add (badO (twZ L (decZ L X m) || varB L v X))).add (outs (fun p=>wk L n 0 false p (knE (E++[decZ L X m]) lp)) X)=F.add (wk L (n+1) 1 v i (knE E lp))):=HSD
   have hmk:¬ (m:Int) < (m:Int):=by omega
   clear HSD
   go_wp2_with fail
   refine (readAll_any hR Sr (E++[decZ L X m]) lp _ U i e X ad m cd _ hkl.symm hSt hXr HUP.out (by omega) (by omega) (by omega) (by simp;omega) hU).mono ?_
   rintro r w2 ⟨rfl,S2,U2,hSt2,hN2,hU2⟩
   rw [HSD'.out] at hSt2
   have hNw:=(hN1.trans hN).trans hN2
   go_wp2_with fail
   refine (closeBlock_any S2 c a cap L E _ _ U2 w2 hSt2).mono ?_
   rintro r w3 ⟨rfl,hSt3,hN3⟩
   have hNw3:=hNw.trans hN3
   go_wp2
   go_end0
   exact ⟨rfl,S2,U2,hSt3,hNw3,hU2⟩
end Q
end Go.Proofs.YtdgihicpjonjgaaGreatDoor
namespace Go.Proofs.YtdgihicpjonjgaaGreatDoor
open Go.RowKit
namespace Q
theorem putE_first (s:Int):putE false ([],[]) s=([s],[]):=rfl
set_option maxHeartbeats 2000000 in
theorem readTurn_any {a:Option Addr} {cap:Nat} {L:List ByteArray} {c n:Nat} (hR:ReadC a cap L c n) (S:Nat→Prop) (E:Blks) (F:Ot) (U:Nat) (y d:Int) (w:World) (h:St S c a cap L E F U w) (hy0:0≤y) (hy1:y < (L.length:Int)) (hd:ItV L d) (hn:2 * farN L d+1≤n) (hE:E.length+(n+1)≤20000) (hU:(U:Int)≤d) :
  Calls Tryz.prog 145 #[.pointer (some ⟨c,0,none⟩),.int .i64 y,.int .i64 d] w fun r w'=>r=.returned (.tuple #[])∧∃ S' U',St S' c a cap L E (F.add (wk L n 0 false d (knE (E++[([y],[])]) true))) U' w'∧Nxt S S' w w'∧(U':Int)≤itemE L d:=by
 go_enter Tryz.func145,Tryz.ntmps145
 go_wp2_with fail
 refine (openBlock_any S c a cap L E F U w h (by omega)).mono ?_
 rintro r w1 ⟨rfl,S1,hSt1,hN1⟩
 go_wp2_with fail
 refine (declare_any S1 c a cap L E [] [] F U y false w1 hSt1 hy0 hy1).mono ?_
 rintro r w2 ⟨rfl,hSt2,hN2⟩
 rw [putE_first,show F.add (badO (inB ((sideL false [] []).map (sgAt L)) (sgAt L y)))=F from Ot.add_none F] at hSt2
 have hN12:=hN1.trans hN2
 clear hSt1 hN1 hN2 h
 go_wp2_with fail
 refine (hR S1 (E++[([y],[])]) true F U d w2 hSt2 hd hn (by simp;omega) hU).mono ?_
 rintro r w3 ⟨rfl,S3,U3,hSt3,hN3,hU3⟩
 have hN13:=hN12.trans hN3
 clear hSt2 hN12 hN3
 go_wp2_with fail
 refine (closeBlock_any S3 c a cap L E _ _ U3 w3 hSt3).mono ?_
 rintro r w4 ⟨rfl,hSt4,hN4⟩
 have hN14:=hN13.trans hN4
 go_wp2
 go_end0
 exact ⟨rfl,S3,U3,hSt4,hN14,hU3⟩
theorem outs_giv (L:List ByteArray) (f:Int→Ot):∀ ps,outs (parO L f) ps=outs f (givL L ps)
 | []=>rfl
 | p :: ps=>by
  show (parO L f p).add (outs (parO L f) ps)=outs f (givL L (p :: ps))
  rw [outs_giv L f ps]
  show (if isW (sgAt L p) [40] then f (p+2) else Ot.none).add (outs f (givL L ps))=outs f (if isW (sgAt L p) [40] then (p+2) :: givL L ps else givL L ps)
  split
  ·rfl
  ·exact Ot.none_add _
theorem fnO_said (L:List ByteArray) (n:Nat) (i:Int) (E:Blks) (lp:Bool) (F:Ot) (ps:List Int) (b:Int) (hps:plc L (i+3)=ps) (hb:bodyI L i=b) :
  ((F.add (badO (twP L (ps.map (parN L))))).add (outs (fun p=>wk L n 0 false p (knE (E++[(ps.map (parN L),[])]) false)) (givL L ps))).add (wk L n 1 (decide (((givL L ps).length:Int)=0)) b (knE (E++[(ps.map (parN L),[])]) false))=F.add (fnO L (wk L n) i (knE E lp)):=by
 unfold fnO
 rw [hps,hb,knE_names E (ps.map (parN L)) lp false,outs_giv,giv_any,Ot.add_assoc,Ot.add_assoc]
set_option maxRecDepth 100000 in
set_option maxHeartbeats 8000000 in
theorem readFunction_any {a:Option Addr} {cap:Nat} {L:List ByteArray} {c n:Nat} (hR:ReadC a cap L c n) (hK:RBlkC a cap L c n) (hL:L.length≤2000) (hsg:signsB L=true) (S:Nat→Prop) (E:Blks) (lp:Bool) (F:Ot) (U:Nat) (i e7 e6:Int) (kq m:Nat) (ad:Option Addr) (cd:Nat) (w:World) (h:St S c a cap L E F U w) (hX:RowI S w ad (chainP L m (e7+1)))
  (hi0:0≤i) (ho:isW (sgAt L (i+2)) [40]=true) (hit:0≤itemE L (i+2)) (hq:chainQ L kq (i+3) e7) (h70:0≤e7) (h71:e7 < (L.length:Int)) (h7:isW (sgAt L e7) [41]=true) (hbody:bodyI L i=e7+1) (hd:chainD L m (e7+1) e6) (h60:0≤e6) (h61:e6 < (L.length:Int)) (h6:isW (sgAt L e6) [41]=true)
  (hn:2 * farN L i+1≤n+1) (hE:E.length+(n+1)≤20000) (hU:(U:Int)≤i) :
  Calls Tryz.prog 144 #[.pointer (some ⟨c,0,none⟩),.int .i64 (i+2),.slice ad m cd] w fun r w'=>r=.returned (.tuple #[])∧∃ S' U',St S' c a cap L E (F.add (fnO L (wk L n) i (knE E lp))) U' w'∧Nxt S S' w w'∧(U':Int)≤e6:=by
 obtain ⟨i0,hi,hz0,hz1,hz2⟩:=info_parts infoI
 have hqe:=chainQ_ends kq _ hq h70
 have hme:=chain_ends m _ hd h60
 have hf1:=farR_lt (L:=L) hi0 (by omega:i < i+3) (by omega)
 have hf2:=farR_lt (L:=L) (by omega:0≤i+3) (by omega:i+3 < e7+1) (by omega)
 have hall:=chainQ_all kq _ hq h70
 have hup:=upL_giv kq _ hq h70
 have hkl:=chP_len L kq (i+3)
 have HSAID:=fnO_said L n i E lp F (chainP L kq (i+3)) (e7+1) (plc_par hq h70 h71 h7) hbody
 have HPI:Hid (∀ W,ArgT W a L→Calls Tryz.prog 119 #[.slice a L.length cap,.int .i64 (i+2)] W fun e W'=>∃ v,e=.returned v∧OwnI W' W.heap.size v (chainP L kq (i+3))∧Below W.heap.size W W'):=fun W hA=>by
  have:=itemsInI_any a cap L (i+2) e7 kq (by omega) hsg ho hit (by rw [show i+2+1=i+3 by omega];exact chI_Q kq _ hq) h70 (by omega) (itemE_none (Or.inr (Or.inr h7))) W hA
  rw [show i+2+1=i+3 by omega] at this
  exact this
 obtain ⟨P,hP⟩:∃ P,P=chainP L kq (i+3):=⟨_,rfl⟩
 rw [← hP] at hall hup hkl HSAID HPI
 have HSD:Hid (((F.add (badO (twP L (P.map (parN L))))).add (outs (fun p=>wk L n 0 false p (knE (E++[(P.map (parN L),[])]) false)) (givL L P))).add (wk L n 1 (decide (((givL L P).length:Int)=0)) (e7+1) (knE (E++[(P.map (parN L),[])]) false))=F.add (fnO L (wk L n) i (knE E lp))):=HSAID
 have HUP:Hid (UpL L (givL L P) (i+3) e7):=hup
 clear HSAID hP hup hbody
 have fa:0≤i+3:=by omega
 have fb:(givL L P).length≤1048576:=by have:=givL_len L P;omega
 have fc:2 * farN L (i+3)+1≤n:=by omega
 have fd:(E++[(P.map (parN L),[])]).length+n≤20000:=by simp;omega
 have fe:(U:Int)≤i+3:=by omega
 have ff:2 * farN L (e7+1)+2≤n:=by omega
 have HF:Hid (0≤i+3∧(givL L P).length≤1048576∧2 * farN L (i+3)+1≤n∧(E++[(P.map (parN L),[])]).length+n≤20000∧(U:Int)≤i+3∧2 * farN L (e7+1)+2≤n):=⟨fa,fb,fc,fd,fe,ff⟩
 clear fa fb fc fd fe ff
 go_enter Tryz.func144,Tryz.ntmps144
 go_wp2_with fail
 refine (openBlock_any S c a cap L E F U w h (by omega)).mono ?_
 rintro r w1 ⟨rfl,S1,hSt1,hN1⟩
 have hX1:=hX.nxt hN1
 have HA1:Hid (ArgS S1 w1 a L):=hSt1.2
 have hlow:∀ k,S1 k→k < w1.heap.size:=by
  obtain ⟨⟨x,hM,_⟩,_⟩:=hSt1
  exact fun k hk=>(hM.low k hk).2
 have HG0:Hid (OwnI (w1.alloc (.cells #[] 2)) w1.heap.size (.slice (some ⟨w1.heap.size,0,none⟩) 0 0) []):=World.ownsRow_made w1 #[] 0 (Nat.le_refl _) (Nat.zero_le _) rfl
 obtain ⟨W2,hW2⟩:∃ W2,W2=w1.alloc (.cells #[] 2):=⟨_,rfl⟩
 have hb2:Below w1.heap.size w1 W2:=by rw [hW2];exact balloc (Below.refl _ _) _
 have hz2':W2.heap.size=w1.heap.size+1:=by rw [hW2];simp
 rw [← hW2] at HG0
 have hSt2:=hSt1.call hb2
 obtain ⟨⟨x,hM,hS⟩,hA⟩:=id hSt2
 have hc0:(w1.alloc (.cells #[] 2)).cell? ⟨c,0,none⟩=some (.slice a L.length cap):=hW2▸hM.c0
 clear h hX hSt1
 go_wp2_with fail
 rw [← hW2]
 refine (HPI.out _ hA.arg).mono ?_
 rintro r w3 ⟨vp,rfl,hOp,hb3⟩
 have hSt3:=hSt2.call hb3
 have hN3:Nxt S1 S1 w1 w3:=(Nxt.of_below S1 hb2).trans (Nxt.of_below S1 hb3)
 have hG3:OwnI w3 w1.heap.size (.slice (some ⟨w1.heap.size,0,none⟩) 0 0) []:=own_kept HG0.out (fun g hg=>hb3.block g (World.ownsRow.lt HG0.out g hg).2)
 obtain ⟨avp,cvp,rfl,hcvp,hRp⟩:=hOp.row (S:=fun k=>S1 k∨(Value.slice (some ⟨w1.heap.size,0,none⟩) 0 0).ownBlock=some k) (fun k hk=>by
  rcases hk with hk | hk
  ·have:=hlow k hk
   omega
  ·have:w1.heap.size=k:=by simpa [Value.ownBlock] using hk
   omega)
 clear hW2 hc0 hM hS hA hb3 hb2 hOp HG0 hSt2 HPI hz2'
 rw [hkl]
 rw [hkl] at hcvp
 have HALL:Hid (∀ p∈P,fm L 3 p≠-1∧i+3≤p∧itemE L p≤e7):=hall
 clear hall
 go_wp2
 go_loopw [6,20] (fun v6 v20 wr=>∃ (t:Nat) (a6:Option Addr) (n6 cv6:Nat),v20=.int .i64 (t:Int)∧v6=.slice a6 n6 cv6∧n6=(givL L (P.take t)).length∧t≤kq∧St S1 c a cap L (E++[((P.take t).map (parN L),[])]) (F.add (badO (twP L ((P.take t).map (parN L))))) U wr∧OwnI wr w1.heap.size (.slice a6 n6 cv6) (givL L (P.take t))∧Nxt S1 S1 w1 wr∧RowI (fun k=>S1 k∨(Value.slice a6 n6 cv6).ownBlock=some k) wr avp P) (fun _ v20 _=>kq - (intOf v20).toNat)
 case atStart =>
  refine ⟨0,_,_,_,rfl,rfl,rfl,Nat.zero_le _,?_,hG3,hN3,hRp⟩
  rw [List.take_zero,show F.add (badO (twP L (([]:List Int).map (parN L))))=F from Ot.add_none F]
  exact hSt3
 case round =>
  clear hSt3 hG3 hN3 hRp
  obtain ⟨t,a6,n6,cv6,rfl,rfl,hn6,ht,hSt,hG,hN,hRp⟩:=hrel
  by_cases htl:t < kq
  ·have htP:t < P.length:=by omega
   obtain ⟨sp,op,rfl,hspz,hspn,hpc⟩:=hRp t htP
   obtain ⟨hpar,hp3,hpe⟩:=HALL.out _ (List.getElem_mem htP)
   obtain ⟨hp0,hp1,hpc2⟩:=par_at hpar
   have HTK:Hid (P.take (t+1)=P.take t++[P[t]]):=List.take_succ_eq_append_getElem htP
   generalize P[t]=p at hpc hpar hp3 hpe hp0 hp1 hpc2 HTK
   obtain ⟨⟨x,hM,hS⟩,hA⟩:=id hSt
   have hc0:=hM.c0
   obtain ⟨pp,rfl⟩:∃ pp:Nat,p=(pp:Int):=⟨p.toNat,by omega⟩
   obtain ⟨sa,oa,rfl,hac,ham,haz,_⟩:=hA.at (i:=(pp:Int)) hp0 hp1
   have hac':wr.cell? ⟨sa,oa+pp,none⟩=some (.string (sgAt L (pp:Int))):=hac
   have HO:Hid (OwnI wr w1.heap.size (.slice a6 n6 cv6) (givL L (P.take t))):=hG
   have hgl:=givL_len L (P.take t)
   have hgl2:n6≤2000:=by simp at hgl;omega
   have HN6:Hid (n6=(givL L (P.take t)).length):=hn6
   clear hn6 hgl
   have htk:(t:Int) < (kq:Int):=by omega
   clear hac hG
   rcases hpc2 with ⟨h40,hnm,hp2,hiv,hpe2⟩ | ⟨h40,hnm,hpe2⟩
   ·have b40:((sgAt L (pp:Int)).toList == [40])=true:=h40
    have HPN:Hid (parN L (pp:Int)=(pp:Int)+1):=(by unfold parN;rw [h40];rfl:parN L (pp:Int)=(pp:Int)+1)
    have HGV:Hid (givL L (P.take (t+1))=givL L (P.take t)++[(pp:Int)+2]):=(by rw [HTK.out,givL_append];congr 1;unfold givL;rw [h40];rfl:givL L (P.take (t+1))=givL L (P.take t)++[(pp:Int)+2])
    have hie:=hiv.ends
    obtain ⟨k2,e2,q1,q2,q3,q4,q5⟩:=item_parts h40 (by omega)
    have hit1:itemE L ((pp:Int)+1)=(pp:Int)+2:=by rw [item_one (by omega) (by omega) (nm_plain hnm)];omega
    have HIT:Hid (∀ W,ArgT W (some ⟨sa,oa,none⟩) L→Calls Tryz.prog 119 #[.slice (some ⟨sa,oa,none⟩) L.length cap,.int .i64 (pp:Int)] W fun r W'=>∃ v,r=.returned v∧OwnI W' W.heap.size v (chainP L k2 ((pp:Int)+1))∧Below W.heap.size W W'):=fun W hA=>itemsInI_any (some ⟨sa,oa,none⟩) cap L (pp:Int) e2 k2 (by omega) hsg h40 (by omega) q1 q2 (by omega) (itemE_none (Or.inr (Or.inr q4))) W hA
    obtain ⟨k3,rfl,_,q6⟩:=chI_next q1 (by omega)
    rw [hit1] at q6
    obtain ⟨k4,rfl,_,_⟩:=chI_next q6 (by omega)
    have HCH:Hid (chainP L (k4+1+1) ((pp:Int)+1)=((pp:Int)+1) :: ((pp:Int)+2) :: chainP L k4 (itemE L ((pp:Int)+2))):=(by rw [chainP_succ,hit1,chainP_succ]:chainP L (k4+1+1) ((pp:Int)+1)=((pp:Int)+1) :: ((pp:Int)+2) :: chainP L k4 (itemE L ((pp:Int)+2)))
    have HDE:Hid (∀ W,St S1 c (some ⟨sa,oa,none⟩) cap L (E++[((P.take t).map (parN L),[])]) (F.add (badO (twP L ((P.take t).map (parN L))))) U W→Calls Tryz.prog 87 #[.pointer (some ⟨c,0,none⟩),.int .i64 ((pp:Int)+1),.bool false] W fun e w'=>e=.returned (.tuple #[])∧St S1 c (some ⟨sa,oa,none⟩) cap L (E++[((P.take (t+1)).map (parN L),[])]) (F.add (badO (twP L ((P.take (t+1)).map (parN L))))) U w'∧Nxt S1 S1 W w'):=fun W hW=>by
     refine (declare_any S1 c (some ⟨sa,oa,none⟩) cap L E ((P.take t).map (parN L)) [] _ U ((pp:Int)+1) false W hW (by omega) hp2).mono ?_
     rintro r w' ⟨h1,h2,h3⟩
     rw [badO_add] at h2
     refine ⟨h1,?_,h3⟩
     rw [HTK.out,List.map_append,List.map_singleton,HPN.out,twP_snoc]
     exact h2
    have HST:Hid (St S1 c (some ⟨sa,oa,none⟩) cap L (E++[((P.take t).map (parN L),[])]) (F.add (badO (twP L ((P.take t).map (parN L))))) U wr):=hSt
    have hAT:=hA.arg
    clear hSt h40 hM hS hA q1 q2 q3 q4 q5 q6 hit1 hnm hiv hie
    generalize sgAt L (pp:Int)=s at hac' ham b40
    go_wp2_with fail
    refine (HIT.out _ hAT).mono ?_
    rintro r w4 ⟨vq,rfl,hOq,hb4⟩
    have hO4:OwnI w4 w1.heap.size (.slice a6 n6 cv6) (givL L (P.take t)):=own_kept HO.out (fun g hg=>hb4.block g (World.ownsRow.lt HO.out g hg).2)
    have hN4:=hN.callNew hb4
    have hR4:=hRp.call hb4
    have hSt4:=HST.out.call hb4
    rw [HCH.out] at hOq
    obtain ⟨avq,cvq,rfl,hcvq,hRq⟩:=hOq.row (S:=fun k=>S1 k∨(Value.slice a6 n6 cv6).ownBlock=some k) (fun k hk=>by
     rcases hk with hk | hk
     ·have:=hlow k hk
      have:=hN.size
      omega
     ·exact (World.ownsRow.lt HO.out k hk).2)
    obtain ⟨gq,oq,rfl,hgz,hgn,hg0⟩:=hRq 0 (by simp)
    have hg0':w4.cell? ⟨gq,oq,none⟩=some (.int .i64 ((pp:Int)+1)):=hg0
    have hlq:(1:Int) < ((((pp:Int)+1) :: ((pp:Int)+2) :: chainP L k4 (itemE L ((pp:Int)+2))).length:Int):=by simp;omega
    have HRQ:Hid (RowI (fun k=>S1 k∨(Value.slice a6 n6 cv6).ownBlock=some k) w4 (some ⟨gq,oq,none⟩) (((pp:Int)+1) :: ((pp:Int)+2) :: chainP L k4 (itemE L ((pp:Int)+2)))):=hRq
    generalize (((pp:Int)+1) :: ((pp:Int)+2) :: chainP L k4 (itemE L ((pp:Int)+2))).length=lq at hlq hcvq
    clear HST hRp hN HO hb4 hOq hRq hg0 HIT hAT
    go_wp2_with fail
    refine (HDE.out _ hSt4).mono ?_
    rintro r w5 ⟨rfl,hSt5,hN5⟩
    have hwide:=hN5.wide (T:=fun k=>S1 k∨(Value.slice a6 n6 cv6).ownBlock=some k) (fun k hk=>Or.inl hk)
    have hR5:=hR4.nxt hwide
    have hO5:OwnI w5 w1.heap.size (.slice a6 n6 cv6) (givL L (P.take t)):=own_kept hO4 (fun g hg=>hN5.block g (World.ownsRow.lt hO4 g hg).2 (fun hs=>by have:=hlow g hs;have:=(World.ownsRow.lt hO4 g hg).1;omega))
    have hN15:=hN4.trans hN5
    obtain ⟨gq2,oq2,hqa,hgz5,hgn5,hg5⟩:=(HRQ.out.nxt hwide) 1 (by simp)
    have hg5':w5.cell? ⟨gq,oq+1,none⟩=some (.int .i64 ((pp:Int)+2)):=by
     injection hqa with hqa
     injection hqa with e1 e2 _
     subst e1 e2
     exact hg5
    have hO5':w5.ownsRow w1.heap.size 2 1 (.slice a6 n6 cv6) n6 ((givL L (P.take t)).map fun x=>.int .i64 x):=by
     have:=hO5
     unfold OwnI at this
     rwa [← HN6.out] at this
    have hz15:=hN15.size
    have hcc2:∀ u∈[Value.int .i64 ((pp:Int)+2)],u.oneCell'=true:=fun u hu=>by simp at hu;subst hu;rfl
    have hcc3:n6+1≤maxLen:=by unfold maxLen;omega
    have hcc4:(n6+1) * 8≤140737488355328:=by omega
    have hcc5:w1.heap.size≤(w5.alloc (.cells #[.int .i64 ((pp:Int)+2)] 2)).heap.size:=by simp;omega
    have HO5:Hid (w5.ownsRow w1.heap.size 2 1 (.slice a6 n6 cv6) n6 ((givL L (P.take t)).map fun x=>.int .i64 x)):=hO5'
    clear hO4 hN4 hR4 hSt4 HRQ hN5 hwide hqa hg5 hg0' HDE hO5'
    go_wp2_with (at_builtin;refine wpList_append_at _ rfl (.tmp 46) (.tmp 50) 29 rfl w1.heap.size 2 i0 (.int .i64 0) 1 8 Tryz.underlying29 hi hz0 hz1 hz2 rfl (by decide) _ _ _ rfl (World.ownsRow.alloc HO5.out _) ⟨w5.heap.size,0,none⟩ 1 1 [.int .i64 ((pp:Int)+2)] rfl rfl (cell_one_new _ _ _) hcc2 hcc3 hcc4 hcc5 ?_)
    intro v' w6 hown hgrow hwh
    obtain ⟨a7,cv7,rfl,_,_,_,_⟩:=own_shape hown
    have hO6:OwnI w6 w1.heap.size (.slice a7 (n6+1) cv7) (givL L (P.take (t+1))):=by
     rw [HGV.out]
     unfold OwnI
     rw [List.length_append,List.map_append,← HN6.out]
     exact hown
    have hgk:∀ k,k < w5.heap.size→(Value.slice a6 n6 cv6).ownBlock≠some k→w6.heap[k]?=w5.heap[k]?:=fun k hk hne=>(hgrow.block k (by simp;omega) (fun e=>hne e.symm)).trans (Below.heap_alloc _ _ _ hk)
    have hlo6:∀ k,(Value.slice a6 n6 cv6).ownBlock=some k→w1.heap.size≤k:=fun k hk=>(World.ownsRow.lt HO5.out k hk).1
    have hN16:Nxt S1 S1 w1 w6:=(hN15.callNew (balloc (Below.refl _ _) (.cells #[.int .i64 ((pp:Int)+2)] 2))).grownNew hgrow hlo6
    have hR6:RowI (fun k=>S1 k∨(Value.slice a7 (n6+1) cv7).ownBlock=some k) w6 (some ⟨sp,op,none⟩) P:=fun j hj=>by
     obtain ⟨sb,off,r1,r2,r3,r4⟩:=hR5 j hj
     have hk6:=hgk sb r2 (fun e=>r3 (Or.inr e))
     refine ⟨sb,off,r1,by have:=hgrow.size;simp at this;omega,?_,(World.cell?_of_block (w:=w5) (a:=⟨sb,off+j,none⟩) hk6).trans r4⟩
     rintro (hs | hs)
     ·exact r3 (Or.inl hs)
     ·rcases hwh sb hs with e | e
      ·exact r3 (Or.inr e)
      ·omega
    have hSt6:St S1 c (some ⟨sa,oa,none⟩) cap L (E++[((P.take (t+1)).map (parN L),[])]) (F.add (badO (twP L ((P.take (t+1)).map (parN L))))) U w6:=by
     obtain ⟨⟨x,hM,hS⟩,_⟩:=hSt5
     refine ⟨⟨x,hM.keep (fun k hk=>hgk k (by have:=hlow k hk;omega) (fun e=>by have:=hlo6 k e;have:=hlow k hk;omega)) (by have:=hgrow.size;simp at this;omega),hS⟩,HA1.out.nxt hN16⟩
    clear hown hgrow hwh hgk hR5 hSt5 HO5 hO5 hN15
    go_wp2
    go_roundw
    case rel=>exact ⟨t+1,a7,n6+1,cv7,by go_num,rfl,by rw [HGV.out,List.length_append,← HN6.out];rfl,by omega,hSt6,hO6,hN16,hR6⟩
    case measure=>simp [intOf];omega
   ·have b40:((sgAt L (pp:Int)).toList == [40])=false:=h40
    have HPN:Hid (parN L (pp:Int)=(pp:Int)):=(by unfold parN;rw [h40];rfl:parN L (pp:Int)=(pp:Int))
    have HGV:Hid (givL L (P.take (t+1))=givL L (P.take t)):=(by rw [HTK.out,givL_append];unfold givL;rw [h40];exact List.append_nil _:givL L (P.take (t+1))=givL L (P.take t))
    have HDE:=declare_any S1 c (some ⟨sa,oa,none⟩) cap L E ((P.take t).map (parN L)) [] _ U (pp:Int) false wr hSt hp0 hp1
    have HDE':Hid (Calls Tryz.prog 87 #[.pointer (some ⟨c,0,none⟩),.int .i64 (pp:Int),.bool false] wr fun e w'=>e=.returned (.tuple #[])∧St S1 c (some ⟨sa,oa,none⟩) cap L (E++[((P.take (t+1)).map (parN L),[])]) (F.add (badO (twP L ((P.take (t+1)).map (parN L))))) U w'∧Nxt S1 S1 wr w'):=by
     refine HDE.mono ?_
     rintro r w' ⟨h1,h2,h3⟩
     rw [badO_add] at h2
     refine ⟨h1,?_,h3⟩
     rw [HTK.out,List.map_append,List.map_singleton,HPN.out,twP_snoc]
     exact h2
    clear HDE hSt h40 hM hS hA
    generalize sgAt L (pp:Int)=s at hac' ham b40
    go_wp2_with fail
    refine HDE'.out.mono ?_
    rintro r w4 ⟨rfl,hSt4,hN4⟩
    have hO4:OwnI w4 w1.heap.size (.slice a6 n6 cv6) (givL L (P.take (t+1))):=by
     rw [HGV.out]
     exact own_kept HO.out (fun g hg=>hN4.block g (World.ownsRow.lt HO.out g hg).2 (fun hs=>by have:=hlow g hs;have:=(World.ownsRow.lt HO.out g hg).1;omega))
    have hN5:=hN.trans hN4
    have hR5:=hRp.nxt (hN4.wide (T:=fun k=>S1 k∨(Value.slice a6 n6 cv6).ownBlock=some k) (fun k hk=>Or.inl hk))
    clear HDE' hRp hN hN4 HO
    go_wp2
    go_roundw
    case rel=>exact ⟨t+1,a6,n6,cv6,by go_num,rfl,by rw [HGV.out];exact HN6.out,by omega,hSt4,hO4,hN5,hR5⟩
    case measure=>simp [intOf];omega
  ·have e1:t=kq:=by omega
   subst e1
   have hPt:P.take t=P:=List.take_of_length_le (by omega)
   rw [hPt] at hSt hG hn6
   obtain ⟨av6,cv6',hv6,_,hR6⟩:=hG.row (S:=S1) hlow
   rw [← hn6] at hv6
   injection hv6 with ea _ ec
   subst ea ec
   have hgl:=givL_len L P
   have HN6:Hid (n6=(givL L P).length):=hn6
   clear hn6
   have hXr:=hX1.nxt hN
   have hNw:=hN1.trans hN
   have htk:¬ (t:Int) < (t:Int):=by omega
   clear hG hRp hPt hX1 hN1 hN
   go_wp2_with fail
   refine (readAll_any hR S1 (E++[(P.map (parN L),[])]) false _ U (i+3) e7 (givL L P) a6 n6 cv6 _ HN6.out hSt hR6 HUP.out HF.out.1 HF.out.2.1 HF.out.2.2.1 HF.out.2.2.2.1 HF.out.2.2.2.2.1).mono ?_
   rintro r w4 ⟨rfl,S4,U4,hSt4,hN4,hU4⟩
   have hX4:=hXr.nxt hN4
   have hNw4:=hNw.trans hN4
   have HKB:Hid (∀ v,decide (((givL L P).length:Int)=0)=v→Calls Tryz.prog 42 #[.pointer (some ⟨c,0,none⟩),.slice ad m cd,.bool v,.bool false] w4 fun r w'=>r=.returned (.tuple #[])∧∃ S' U',St S' c a cap L (E++[(P.map (parN L),[])]) (F.add (fnO L (wk L n) i (knE E lp))) U' w'∧Nxt S4 S' w4 w'∧(U':Int)≤e6):=fun v hv=>by
    subst hv
    rw [← HSD.out]
    exact hK S4 (E++[(P.map (parN L),[])]) false _ _ U4 (e7+1) e6 m ad cd w4 hSt4 hX4 hd (Or.inr h6) h60 (by omega) HF.out.2.2.2.2.2 HF.out.2.2.2.1 (by omega)
   clear hSt hR6 hXr hNw hSt4 hN4 hX4 HSD
   by_cases hz6:n6=0
   ·have bz:((n6:Int) == 0)=true:=by simp [hz6]
    have HKB':=HKB.out true (by rw [← HN6.out,hz6];rfl)
    have HKB'':Hid (Calls Tryz.prog 42 #[.pointer (some ⟨c,0,none⟩),.slice ad m cd,.bool true,.bool false] w4 fun r w'=>r=.returned (.tuple #[])∧∃ S' U',St S' c a cap L (E++[(P.map (parN L),[])]) (F.add (fnO L (wk L n) i (knE E lp))) U' w'∧Nxt S4 S' w4 w'∧(U':Int)≤e6):=HKB'
    clear hz6 HKB HKB'
    go_wp2_with fail
    refine HKB''.out.mono ?_
    rintro r w5 ⟨rfl,S5,U5,hSt5,hN5,hU5⟩
    have hNw5:=hNw4.trans hN5
    clear HKB''
    go_wp2_with fail
    refine (closeBlock_any S5 c a cap L E _ _ U5 w5 hSt5).mono ?_
    rintro r w6 ⟨rfl,hSt6,hN6⟩
    have hNw6:=hNw5.trans hN6
    go_wp2
    go_end0
    exact ⟨rfl,S5,U5,hSt6,hNw6,hU5⟩
   ·have bz:((n6:Int) == 0)=false:=by simp;omega
    have HKB':=HKB.out false (by rw [← HN6.out];simp;omega)
    have HKB'':Hid (Calls Tryz.prog 42 #[.pointer (some ⟨c,0,none⟩),.slice ad m cd,.bool false,.bool false] w4 fun r w'=>r=.returned (.tuple #[])∧∃ S' U',St S' c a cap L (E++[(P.map (parN L),[])]) (F.add (fnO L (wk L n) i (knE E lp))) U' w'∧Nxt S4 S' w4 w'∧(U':Int)≤e6):=HKB'
    clear hz6 HKB HKB'
    go_wp2_with fail
    refine HKB''.out.mono ?_
    rintro r w5 ⟨rfl,S5,U5,hSt5,hN5,hU5⟩
    have hNw5:=hNw4.trans hN5
    clear HKB''
    go_wp2_with fail
    refine (closeBlock_any S5 c a cap L E _ _ U5 w5 hSt5).mono ?_
    rintro r w6 ⟨rfl,hSt6,hN6⟩
    have hNw6:=hNw5.trans hN6
    go_wp2
    go_end0
    exact ⟨rfl,S5,U5,hSt6,hNw6,hU5⟩
end Q
end Go.Proofs.YtdgihicpjonjgaaGreatDoor
namespace Go.Proofs.YtdgihicpjonjgaaGreatDoor
open Go.RowKit
namespace Q
section
variable {L:List ByteArray} {i:Int} (r:Nat→Bool→Int→Kn→Ot) (K:Kn)
theorem itw_alone (ho:isW (sgAt L i) [40]=false):itemO L r i K=if nmB (sgAt L i) then useO L K i else Ot.none:=by
 unfold itemO
 rw [ho]
 rfl
theorem itw_hidden (ho:isW (sgAt L i) [40]=true) (hc:isW (sgAt L (i+1)) [104,105,100,100,101,110]=true):itemO L r i K=Ot.none:=by
 unfold itemO
 rw [ho,isW_eq hc]
 simp [isW_lit]
theorem itw_vars (ho:isW (sgAt L i) [40]=true) (hc:isW (sgAt L (i+1)) [118,97,114,115]=true):itemO L r i K=Ot.none:=by
 unfold itemO
 rw [ho,isW_eq hc]
 simp [isW_lit]
theorem itw_let (ho:isW (sgAt L i) [40]=true) (hc:isW (sgAt L (i+1)) [108,101,116]=true):itemO L r i K=r 0 false (i+3) K:=by
 unfold itemO
 rw [ho,isW_eq hc]
 simp [isW_lit]
theorem itw_take (ho:isW (sgAt L i) [40]=true) (hc:isW (sgAt L (i+1)) [116,97,107,101]=true):itemO L r i K=r 0 false (itemE L (i+2)) K:=by
 unfold itemO
 rw [ho,isW_eq hc]
 simp [isW_lit]
theorem itw_set (ho:isW (sgAt L i) [40]=true) (hc:isW (sgAt L (i+1)) [115,101,116]=true):itemO L r i K=(useO L K (i+2)).add (r 0 false (i+3) K):=by
 unfold itemO
 rw [ho,isW_eq hc]
 simp [isW_lit]
theorem itw_hget (ho:isW (sgAt L i) [40]=true) (hc:isW (sgAt L (i+1)) [104,103,101,116]=true):itemO L r i K=(hideO L K (i+2)).add (outs (fun p=>r 0 false p K) (plc L (i+3))):=by
 unfold itemO
 rw [ho,isW_eq hc]
 simp [isW_lit]
theorem itw_hput (ho:isW (sgAt L i) [40]=true) (hc:isW (sgAt L (i+1)) [104,112,117,116]=true):itemO L r i K=(hideO L K (i+2)).add (outs (fun p=>r 0 false p K) (plc L (i+3))):=by
 unfold itemO
 rw [ho,isW_eq hc]
 simp [isW_lit]
theorem itw_fn (ho:isW (sgAt L i) [40]=true) (hc:isW (sgAt L (i+1)) [102,110]=true):itemO L r i K=fnO L r i K:=by
 unfold itemO
 rw [ho,isW_eq hc]
 simp [isW_lit]
theorem itw_do (ho:isW (sgAt L i) [40]=true) (hc:isW (sgAt L (i+1)) [100,111]=true):itemO L r i K=r 1 false (i+2) K:=by
 unfold itemO
 rw [ho,isW_eq hc]
 simp [isW_lit]
theorem itw_while (ho:isW (sgAt L i) [40]=true) (hc:isW (sgAt L (i+1)) [119,104,105,108,101]=true):itemO L r i K=(r 0 false (i+2) K).add (r 0 false (itemE L (i+2)) (inLoop K true)):=by
 unfold itemO
 rw [ho,isW_eq hc]
 simp [isW_lit]
theorem itw_for (ho:isW (sgAt L i) [40]=true) (hc:isW (sgAt L (i+1)) [102,111,114]=true):itemO L r i K=(r 0 false (i+3) K).add ((r 0 false (itemE L (i+3)) K).add (r 0 false (itemE L (itemE L (i+3))) (addN (inLoop K true) [i+2]))):=by
 unfold itemO
 rw [ho,isW_eq hc]
 simp [isW_lit]
theorem itw_leave (ho:isW (sgAt L i) [40]=true) (hc:isW (sgAt L (i+1)) [108,101,97,118,101]=true):itemO L r i K=badO (!K.lp):=by
 unfold itemO
 rw [ho,isW_eq hc]
 simp [isW_lit,badO]
theorem itw_next (ho:isW (sgAt L i) [40]=true) (hc:isW (sgAt L (i+1)) [110,101,120,116]=true):itemO L r i K=badO (!K.lp):=by
 unfold itemO
 rw [ho,isW_eq hc]
 simp [isW_lit,badO]
theorem itw_rest (ho:isW (sgAt L i) [40]=true) (hhidden:isW (sgAt L (i+1)) [104,105,100,100,101,110]=false) (hvars:isW (sgAt L (i+1)) [118,97,114,115]=false) (hlet:isW (sgAt L (i+1)) [108,101,116]=false) (htake:isW (sgAt L (i+1)) [116,97,107,101]=false) (hset:isW (sgAt L (i+1)) [115,101,116]=false) (hhget:isW (sgAt L (i+1)) [104,103,101,116]=false) (hhput:isW (sgAt L (i+1)) [104,112,117,116]=false) (hfn:isW (sgAt L (i+1)) [102,110]=false) (hdo:isW (sgAt L (i+1)) [100,111]=false) (hwhile:isW (sgAt L (i+1)) [119,104,105,108,101]=false) (hfor:isW (sgAt L (i+1)) [102,111,114]=false) (hleave:isW (sgAt L (i+1)) [108,101,97,118,101]=false) (hnext:isW (sgAt L (i+1)) [110,101,120,116]=false):itemO L r i K=outs (fun p=>r 0 false p K) (plc L (i+2)):=by
 unfold itemO
 rw [ho,hhidden,hvars,hlet,htake,hset,hhget,hhput,hfn,hdo,hwhile,hfor,hleave,hnext]
 simp
end
set_option maxHeartbeats 2000000 in
theorem readAlone_any (S:Nat→Prop) (c:Nat) (a:Option Addr) (cap:Nat) (L:List ByteArray) (E:Blks) (lp:Bool) (F:Ot) (U:Nat) (i:Int) (w:World) (h:St S c a cap L E F U w) (hL:L.length≤2000) (hv:ItV L i) (ho:isW (sgAt L i) [40]=false) (hU:(U:Int)≤i) :
  Calls Tryz.prog 142 #[.pointer (some ⟨c,0,none⟩),.int .i64 i] w fun e w'=>e=.returned (.tuple #[])∧∃ S' U',St S' c a cap L E (F.add (if nmB (sgAt L i) then useO L (knE E lp) i else Ot.none)) U' w'∧Nxt S S' w w'∧(U':Int)≤itemE L i:=by
 have hend:=hv.ends
 have hone:=alone_one hv ho
 have e1:=one_vi (sgAt L i)
 have HUSE:Hid (∀ W,St S c a cap L E F U W→Calls Tryz.prog 143 #[.pointer (some ⟨c,0,none⟩),.int .i64 i,.bool false] W fun e w'=>e=.returned (.tuple #[])∧∃ S',St S' c a cap L E (F.add (usO L false E i)) (U+1) w'∧Nxt S S' W w'):=fun W hW=>use_any S c a cap L E F U i false W hW (by omega) (by omega) (by omega)
 obtain ⟨⟨x,hM,hS⟩,hA⟩:=id h
 obtain ⟨sb,off,rfl,hsc,hsm,hsz,hsn⟩:=hA.at (i:=i) (by omega) (by omega)
 obtain ⟨ii,rfl⟩:∃ ii:Nat,i=(ii:Int):=⟨i.toNat,by omega⟩
 have hsc':w.cell? ⟨sb,off+ii,none⟩=some (.string (sgAt L (ii:Int))):=hsc
 have hc0:=hM.c0
 have ht:=hA.tab
 have hi1:(ii:Int) < (L.length:Int):=by omega
 clear hsc hM hS
 cases hvi:viB (sgAt L (ii:Int))
 ·have hnm:nmB (sgAt L (ii:Int))=true:=by rw [e1,hvi,Bool.false_or] at hone;exact hone
  have HF:Hid ((if nmB (sgAt L (ii:Int)) then useO L (knE E lp) (ii:Int) else Ot.none)=usO L false E (ii:Int)):=(by rw [hnm];rfl:(if nmB (sgAt L (ii:Int)) then useO L (knE E lp) (ii:Int) else Ot.none)=usO L false E (ii:Int))
  have HV:Hid (viB (sgAt L (ii:Int))=false):=hvi
  rw [HF.out]
  clear hvi hnm HF e1 hone
  generalize hsg:sgAt L (ii:Int)=s at *
  clear hsg
  go_enter Tryz.func142,Tryz.ntmps142
  go_wp2_with fail
  refine (valueInI_any s _ hsm ht).mono ?_
  rintro e w1 ⟨rfl,hb1⟩
  rw [HV.out]
  generalize viK s=tk
  generalize viN s=tn
  generalize viT s=tt
  have hW:Below w1.heap.size w1 (w1.alloc (.cells #[.int .i64 tk,.int .i64 tn,.string tt] 116)):=balloc (Below.refl _ _) _
  have hB:=bstep hb1 hW
  have hSt:=h.call hB
  clear h
  go_wp2_with fail
  refine (HUSE.out _ hSt).mono ?_
  rintro e w2 ⟨rfl,S2,hSt2,hN2⟩
  have hN:=(Nxt.of_below S hB).trans hN2
  go_wp2
  go_end0
  exact ⟨rfl,S2,U+1,hSt2,hN,by omega⟩
 ·have HF:Hid (F.add (if nmB (sgAt L (ii:Int)) then useO L (knE E lp) (ii:Int) else Ot.none)=F):=(by rw [vi_not_nm hvi];exact Ot.add_none F:F.add (if nmB (sgAt L (ii:Int)) then useO L (knE E lp) (ii:Int) else Ot.none)=F)
  have HV:Hid (viB (sgAt L (ii:Int))=true):=hvi
  rw [HF.out]
  clear hvi HF e1 hone HUSE
  generalize hsg:sgAt L (ii:Int)=s at *
  clear hsg
  go_enter Tryz.func142,Tryz.ntmps142
  go_wp2_with fail
  refine (valueInI_any s _ hsm ht).mono ?_
  rintro e w1 ⟨rfl,hb1⟩
  rw [HV.out]
  generalize viK s=tk
  generalize viN s=tn
  generalize viT s=tt
  have hW:Below w1.heap.size w1 (w1.alloc (.cells #[.int .i64 tk,.int .i64 tn,.string tt] 116)):=balloc (Below.refl _ _) _
  have hB:=bstep hb1 hW
  have hSt:=h.call hB
  clear h
  go_wp2
  go_end0
  exact ⟨rfl,S,U,hSt,Nxt.of_below S hB,by omega⟩
end Q
end Go.Proofs.YtdgihicpjonjgaaGreatDoor
