import Derived.Test.YtdojfommmpnbgaaGreatDoorKBF
import Derived.Test.YtdojfommmpnbgaaGreatDoorKAZ
set_option maxHeartbeats 8000000
set_option maxRecDepth 100000
namespace Go.Proofs.YtdojfommmpnbgaaGreatDoor
open Go.RowKit Go.Proofs.Tryz
namespace Q
theorem AW(E:bj)(X:List Int)(lp lq:Bool):aO (E++[(X,[])]) lq=cj (cz (aO E lp) X) lq:=rfl
theorem Nw(L:af)(E:bj)(lp:Bool)(i:Int):gE L false E i=df L (aO E lp) i:=rfl
theorem Ds(L:af)(E:bj)(lp:Bool)(i:Int):gE L true E i=dw L (aO E lp) i:=rfl
theorem Kb(f:Int→Ot)(ps:List Int){m:Nat}(h:m<ps.length):aW f (ps.drop m)=(f ps[m]).add (aW f (ps.drop (m+1))):=by
 rw[List.drop_eq_getElem_cons h];rfl
def gh(a:Option Addr)(cap:Nat)(L:af)(c n:Nat):Prop:=∀(S:Nat→Prop) (E:bj) (lp:Bool) (F:Ot) (U:Nat) (i:Int) (w:World),St S c a cap L E F U w→aH L i→2*aB L i+1≤n→E.length+n≤20000→(U:Int)≤i →
 ah 157 #[.pointer (some ⟨c,0,none⟩),.int .i64 i,.bool lp] w fun r w'=>r=.returned (.tuple #[])∧∃S' U',St S' c a cap L E (F.add (wk L n 0 false i (aO E lp))) U' w'∧aE S S' w w'∧(U':Int)≤ag L i
def iq(a:Option Addr)(cap:Nat)(L:af)(c n:Nat):Prop:=∀(S:Nat→Prop) (E:bj) (lp v:Bool) (F:Ot) (U:Nat) (i e:Int) (k:Nat) (ad:Option Addr) (cd:Nat) (w:World),St S c a cap L E F U w→di S w ad (ar L k i)→ey L k i e→jj L e→0≤e→e≤(L.length:Int)→2*aB L i+2≤n→E.length+n≤20000→(U:Int)≤i →
 ah 61 #[.pointer (some ⟨c,0,none⟩),.slice ad k cd,.bool v,.bool lp] w fun r w'=>r=.returned (.tuple #[])∧∃S' U',St S' c a cap L E (F.add (wk L n 1 v i (aO E lp))) U' w'∧aE S S' w w'∧(U':Int)≤e
theorem pH{a:Option Addr}{cap:Nat}{L:af}{c n:Nat}(hR:gh a cap L c n)(S:Nat→Prop)(E:bj)(lp:Bool)(F:Ot)(U:Nat)(i e:Int)(X:List Int)(ad:Option Addr)(kx cd:Nat)(w:World)(hkx:kx=X.length)(h:St S c a cap L E F U w)(hX:di S w ad X)(hup:fE L X i e)(hi0:0≤i)(hl:X.length≤1048576)(hn:2*aB L i+1≤n)(hE:E.length+n≤20000)(hU:(U:Int)≤i) :
  ah 119 #[.pointer (some ⟨c,0,none⟩),.slice ad kx cd,.bool lp] w fun r w'=>r=.returned (.tuple #[])∧∃S' U',St S' c a cap L E (F.add (aW (fun p=>wk L n 0 false p (aO E lp)) X)) U' w'∧aE S S' w w'∧(U':Int)≤e:=by
 subst hkx;go_enter func119,ntmps119;go_wp2;go_loopw [10] (fun v10 wr=>∃(m:Nat) (G:Ot) (Sr:Nat→Prop) (Ur:Nat) (j:Int),v10=.int .i64 (m:Int)∧m≤X.length∧St Sr c a cap L E G Ur wr∧aE S Sr w wr∧i≤j∧(Ur:Int)≤j∧fE L (X.drop m) j e∧Hid (G.add (aW (fun p=>wk L n 0 false p (aO E lp)) (X.drop m))=F.add (aW (fun p=>wk L n 0 false p (aO E lp)) X))) (fun v10 _=>X.length-(intOf v10).toNat)
 case atStart=>exact⟨0,F,S,U,i,rfl,Nat.zero_le _,h,aE.refl S w,Int.le_refl _,hU,hup,rfl⟩
 case round =>
  obtain⟨m,G,Sr,Ur,j,rfl,hm,hSt,hN,hij,hUj,hupm,HG⟩:=hrel;by_cases hlt:m<X.length
  ·obtain⟨sb,off,rfl,hsb,_,hc⟩:=(hX.OH hN) m hlt;rw[List.drop_eq_getElem_cons hlt]at hupm;obtain⟨u1,u2,u3⟩:=hupm;have hfar:=Ff (L:=L) hi0 (by omega:i≤X[m]);have HC:=hR Sr E lp G Ur X[m] wr hSt u2 (by omega) hE (by omega);have HC':Hid (ah 157 #[.pointer (some ⟨c,0,none⟩),.int .i64 X[m],.bool lp] wr fun r w'=>r=.returned (.tuple #[])∧∃S' U',St S' c a cap L E (G.add (wk L n 0 false X[m] (aO E lp))) U' w'∧aE Sr S' wr w'∧(U':Int)≤ag L X[m]):=HC;have HG2:=aj (by rw[←HG.out,Kb _ _ hlt,Ot.add_assoc]:(G.add (wk L n 0 false X[m] (aO E lp))).add (aW (fun p=>wk L n 0 false p (aO E lp)) (X.drop (m+1)))=F.add (aW (fun p=>wk L n 0 false p (aO E lp)) X));have hends:=u2.ends;clear HC HG hfar;generalize X[m]=p at *;go_wp2_with fail;refine HC'.out.mono ?_;rintro r w2 ⟨rfl,S2,U2,hSt2,hN2,hU2⟩;have hN3:=hN.trans hN2;clear HC';go_wp2;go_roundw
   case rel=>exact⟨m+1,_,S2,U2,ag L p,by go_num,by omega,hSt2,hN3,by omega,hU2,u3,HG2.out⟩
   case measure=>simp[intOf];omega
  ·have e1:m=X.length:=by omega
   subst e1;rw[List.drop_length]at hupm;have hj:j≤e:=hupm;have HG2:=aj (by rw[←HG.out,List.drop_length];exact(Ot.OT G).symm:G=F.add (aW (fun p=>wk L n 0 false p (aO E lp)) X));clear HG;go_wp2;go_end0;exact⟨rfl,Sr,Ur,by rw[←HG2.out];exact hSt,hN,by omega⟩
end Q
namespace Q
def fC(q:Bool)(Z:List Int × List Int)(N:List Int):List Int × List Int:=if q then(Z.1,Z.2++N)else(Z.1++N,Z.2)
theorem DO(q:Bool)(Z:List Int × List Int)(N:List Int)(r:Nat)(h:r<N.length):lA q (fC q Z (N.take r)) N[r]=fC q Z (N.take (r+1)):=by
 rw[List.take_succ_eq_append_getElem h];cases q<;>simp[lA,fC]
theorem DM(q:Bool)(Z:List Int × List Int):fC q Z []=Z:=by cases q<;>simp[fC]
def jb(L:af)(Z:List Int × List Int):Bool:=gC L Z.1||gC L Z.2
theorem No(L:af)(q:Bool)(Z:List Int × List Int)(n:Int):jb L (lA q Z n)=(jb L Z||bc ((bC q Z.1 Z.2).map (aa L)) (aa L n)):=by
 unfold jb lA bC;cases q
 ·simp only[Bool.false_eq_true,if_false,tP];cases gC L Z.1<;>cases bc (Z.1.map (aa L)) (aa L n)<;>cases gC L Z.2<;>rfl
 ·simp only[if_true,tP];cases gC L Z.1<;>cases bc (Z.2.map (aa L)) (aa L n)<;>cases gC L Z.2<;>rfl
theorem DN(L:af)(p:Int)(Z:List Int × List Int):fC (cY L p) Z (aN L (cY L p) p)=(Z.1++aN L false p,Z.2++aN L true p):=by
 unfold aN;cases h:cY L p<;>simp[fC]
theorem KC(L:af)(p:Int):aN L (cY L p) p=dm L p:=by
 unfold aN;rw[if_pos rfl]
noncomputable def cT(L:af)(ps:List Int)(m:Nat):List Int × List Int:=((ps.take m).flatMap (aN L false),(ps.take m).flatMap (aN L true))
theorem EE(L:af)(ps:List Int){m:Nat}(h:m<ps.length):cT L ps (m+1)=fC (cY L ps[m]) (cT L ps m) (aN L (cY L ps[m]) ps[m]):=by
 rw[DN];unfold cT;rw[List.take_succ_eq_append_getElem h,List.flatMap_append,List.flatMap_append];simp only[List.flatMap_cons,List.flatMap_nil,List.append_nil]
theorem N3(L:af)(v:Bool)(ps:List Int){m:Nat}(h:m<ps.length):gO L v (ps.drop m)=((ae (aa L (ps[m]+1)) [118,97,114,115]&&!v)||gO L false (ps.drop (m+1))):=by
 rw[List.drop_eq_getElem_cons h];rfl
theorem Ec(L:af)(n:Nat)(v:Bool)(i:Int)(E:bj)(lp:Bool)(F:Ot)(ps:List Int)(hps:aT L i=ps) :
  (F.add (cB (jb L (cT L ps ps.length)||gO L v ps))).add (aW (fun p=>wk L n 0 false p (aO (E++[cT L ps ps.length]) lp)) ps)=F.add (wk L (n+1) 1 v i (aO E lp)):=by
 show _=F.add (jQ L (wk L n) v i (aO E lp));unfold jQ;rw[hps];have e1:cT L ps ps.length=(ps.flatMap (aN L false),ps.flatMap (aN L true)):=by unfold cT;rw[List.take_length]
 rw[e1,Ot.add_assoc];rfl
theorem Le{a:Option Addr}{cap:Nat}{L:af}{c n:Nat}(hR:gh a cap L c n)(hL:L.length≤2000)(hsg:bQ L=true):iq a cap L c (n+1):=fun S E lp v F U i e k ad cd w h hX hch hend he0 he1 hn hE hU=>by
 have hcv:=(eK k i hch).1;have hce:=eX k i hcv he0;have hup:=rJ k i hcv;have hlt:=jz k i hcv he0;have HDL:Hid (∀p∈ar L k i,fm L 1 p≠-1):=Ep k i hch;have HPL:Hid (aT L i=ar L k i):=ef hcv he0 he1 hend;have hkl:=iR L k i;have HSAID:Hid (∀X,aT L i=X→(F.add (cB (jb L (cT L X X.length)||gO L v X))).add (aW (fun p=>wk L n 0 false p (aO (E++[cT L X X.length]) lp)) X)=F.add (wk L (n+1) 1 v i (aO E lp))):=fun X hX=>Ec L n v i E lp F X hX
 obtain⟨X,hXe⟩:∃X,X=ar L k i:=⟨_,rfl⟩;rw[←hXe]at hX hup hlt HDL HPL hkl;clear hXe hch hcv;have HUP:=aj hup;have HLT:=aj hlt;clear hup hlt;have hkb:k≤2000:=by omega
 go_enter func61,ntmps61;go_wp2_with fail;refine(wx S c a cap L E F U w h (by omega)).mono ?_;rintro r w1 ⟨rfl,S1,hSt1,hN1⟩;have hX1:=hX.OH hN1;clear h hX;go_wp2;go_loopw [18] (fun v18 wr=>∃(m:Nat) (b:Bool) (Sr:Nat→Prop),v18=.int .i64 (m:Int)∧m≤k∧St Sr c a cap L (E++[cT L X m]) (F.add (cB (jb L (cT L X m)||b))) U wr∧aE S1 Sr w1 wr∧Hid ((b||gO L (j6 v m) (X.drop m))=gO L v X)) (fun v18 _=>k-(intOf v18).toNat)
 case atStart=>exact⟨0,false,S1,rfl,Nat.zero_le _,by rw[show F.add (cB (jb L (cT L X 0)||false))=F from Ot.OT F];exact hSt1,aE.refl S1 w1,by show(false||gO L (v&&decide (0=0)) X)=gO L v X;simp⟩
 case round =>
  obtain⟨m,b,Sr,rfl,hm,hSt,hN,HV⟩:=hrel;by_cases hlt:m<k
  ·have hmX:m<X.length:=by omega
   obtain⟨sb,off,rfl,hsb,_,hc⟩:=(hX1.OH hN) m hmX;have hpm:=List.getElem_mem hmX;obtain⟨p1,p2,p3,p4⟩:=HLT.out _ hpm;have hdl:=HDL.out _ hpm;have hlong:=fR hdl;obtain⟨hpn,hpb⟩:=mh hdl;obtain⟨⟨x,hM,hS⟩,hA⟩:=id hSt;obtain⟨sa,oa,rfl,hac,ham,haz,_⟩:=hA.at (i:=X[m]+1) (by omega) (by omega);have hc0:=hM.c0;have HST:=aj hSt;have HDB:Hid (∀W,aD W (some ⟨sa,oa,none⟩) L→ah 117 #[.slice (some ⟨sa,oa,none⟩) L.length cap,.int .i64 X[m]] W fun r W'=>∃av n cv,r=.returned (.tuple #[.slice av n cv,.bool (cY L X[m])])∧n=(dm L X[m]).length∧dz W.heap.size W' av (dm L X[m])∧ai W W'):=fun W hA=>y5 _ cap L _ (by omega) hsg hdl W hA
   have HDZ:=aj (by rw[EE L X hmX,KC]:cT L X (m+1)=fC (cY L X[m]) (cT L X m) (dm L X[m]));have HV2:Hid (((b||(ae (aa L (X[m]+1)) [118,97,114,115]&&!j6 v m))||gO L (j6 v (m+1)) (X.drop (m+1)))=gO L v X):=by
    show((b||(ae (aa L (X[m]+1)) [118,97,114,115]&&!j6 v m))||gO L (j6 v (m+1)) (X.drop (m+1)))=gO L v X;rw[←HV.out,N3 L (j6 v m) X hmX,Bool.or_assoc];congr 2;unfold j6;simp
   have hYl:(dm L X[m]).length≤2000:=by
    have e1:(dm L X[m]).length=(Go.Proofs.YtdojfommmpnbgaaGreatDoor.aN L (cY L X[m]) X[m]).length:=by rw[←hpn,List.length_map]
    have e2:=tp (cY L X[m]) hdl;omega
   clear hSt hS hM HV hpn hdl hpm;generalize X[m]=p at hc hac ham p1 p2 p3 p4 hlong hpb HDB HDZ HV2 hYl;obtain⟨pp,rfl⟩:∃pp:Nat,p=(pp:Int):=⟨p.toNat,by omega⟩;have hwr:IntKind.i64.wrap ((pp:Int)+1)=(pp:Int)+1:=IntWalk.i64_in _ (by omega);have hp0:(0:Int)≤(pp:Int)+1:=by omega
   have hp1:(pp:Int)+1<(L.length:Int):=by omega
   have hpn:((pp:Int)+1).toNat=pp+1:=by omega
   rw[hpn]at hac;generalize aa L ((pp:Int)+1)=s at hac ham HV2;have hmk:(m:Int)<(k:Int):=by omega
   go_upto_region 4 with fail;go_cut [39]from 23 to 38 (fun v39 wc=>v39=.bool (ae s [118,97,114,115]&&!j6 v m)∧wr=wc)
   case first =>
    cases hiv:ae s [118,97,114,115]
    ·have b1:(s.toList==[118,97,114,115])=false:=hiv;have HIV:=aj hiv;clear hiv;go_wp2;go_meet;exact⟨by rw[HIV.out];rfl,rfl⟩
    ·have b1:(s.toList==[118,97,114,115])=true:=hiv;have HIV:=aj hiv;clear hiv;by_cases hm0:m=0
     ·subst hm0;have HVA:=aj (by simp[j6]:j6 v 0=v);cases v
      ·go_wp2;go_meet;exact⟨by rw[HIV.out,HVA.out];rfl,rfl⟩
      ·go_wp2;go_meet;exact⟨by rw[HIV.out,HVA.out];rfl,rfl⟩
     ·have HVA:=aj (by simp[j6,hm0]:j6 v m=false);have hpos:(0:Int)<(m:Int):=by omega
      go_wp2;go_meet;exact⟨by rw[HIV.out,HVA.out];rfl,rfl⟩
   case rest =>
    obtain⟨rfl,rfl⟩:=hcut;generalize (ae s [118,97,114,115]&&!j6 v m)=fl at HV2 ⊢;go_upto_if 39 with fail;go_cut [39]from 40 to 43 (fun _ wc=>St Sr c (some ⟨sa,oa,none⟩) cap L (E++[cT L X m]) (F.add (cB (jb L (cT L X m)||(b||fl)))) U wc∧aE Sr Sr wr wc)
    case first =>
     obtain⟨⟨x,hM,hS⟩,hA⟩:=HST.out;cases fl
     ·have HF:=aj (by rw[Bool.or_false];exact HST.out:St Sr c (some ⟨sa,oa,none⟩) cap L (E++[cT L X m]) (F.add (cB (jb L (cT L X m)||(b||false)))) U wr);go_wp2;go_meet;exact⟨HF.out,aE.refl Sr wr⟩
     ·have k7:=hM.c7;have f7:=hM.fz 7;have HF:Hid (St Sr c (some ⟨sa,oa,none⟩) cap L (E++[cT L X m]) (F.add (cB (jb L (cT L X m)||(b||true)))) U (wr.setCell ⟨c,7,none⟩ (.bool true))∧aE Sr Sr wr (wr.setCell ⟨c,7,none⟩ (.bool true))):=by
       have hN7:=aE.set Sr wr (p:=⟨c,7,none⟩) (.bool true) hM.own;have hs7:=rB hS true { x with fv:=true } rfl rfl (by simp);rw[rZ,Bool.or_assoc]at hs7;exact⟨⟨⟨_,hM.Pk true,hs7⟩,hA.OH hN7⟩,hN7⟩
      go_wp2;go_meet;exact HF.out
    case rest =>
     obtain⟨hStc,hNc⟩:=hcut;have hNwc:=hN.trans hNc;clear HST hc0 hac ham haz hNc hN hc hsb;obtain⟨⟨x,hM,hS⟩,hA⟩:=id hStc;have hc0:=hM.c0;have hlow:=hM.low;go_wp2_with fail;refine(HDB.out _ hA.arg).mono ?_;rintro r w2 ⟨av,nn,cv,rfl,hnn,hRn,hB2⟩;have hSt2:=hStc.call hB2;have hN2:=hNwc.trans (aE.j Sr hB2);have hRI:=hRn.row (fun k hk=>(hlow k hk).2);have HNN:=aj hnn;clear hStc hM hS hA hc0 hlow hRn hB2 hNwc HDB hnn;generalize cY L (pp:Int)=q at HDZ ⊢;have hNb:∀y∈dm L (pp:Int),0≤y∧y<(L.length:Int):=fun y hy=>by have:=hpb y hy;omega
     generalize dm L (pp:Int)=Y at HDZ HNN hRI hNb hYl;go_wp2;go_loopw [55] (fun v55 wr=>∃(t:Nat) (St':Nat→Prop),v55=.int .i64 (t:Int)∧t≤Y.length∧St St' c (some ⟨sa,oa,none⟩) cap L (E++[fC q (cT L X m) (Y.take t)]) (F.add (cB (jb L (fC q (cT L X m) (Y.take t))||(b||fl)))) U wr∧aE Sr St' w2 wr) (fun v55 _=>Y.length-(intOf v55).toNat)
     case atStart =>
      refine⟨0,Sr,rfl,Nat.zero_le _,?_,aE.refl Sr w2⟩;rw[List.take_zero,DM];exact hSt2
     case round =>
      obtain⟨t,S3,rfl,ht,hSt3,hN3⟩:=hrel;by_cases htl:t<Y.length
      ·obtain⟨sy,oy,rfl,hsy,_,hcy⟩:=(hRI.OH hN3) t htl;obtain⟨y0,y1⟩:=hNb _ (List.getElem_mem htl);have HZ:Hid (fC q (cT L X m) (Y.take (t+1))=lA q (fC q (cT L X m) (Y.take t)) Y[t]):=(DO q (cT L X m) Y t htl).symm;have HDE:=si S3 c (some ⟨sa,oa,none⟩) cap L E (fC q (cT L X m) (Y.take t)).1 (fC q (cT L X m) (Y.take t)).2 (F.add (cB (jb L (fC q (cT L X m) (Y.take t))||(b||fl)))) U Y[t] q wr hSt3 y0 y1;have HDE':Hid (ah 118 #[.pointer (some ⟨c,0,none⟩),.int .i64 Y[t],.bool q] wr fun e w'=>e=.returned (.tuple #[])∧St S3 c (some ⟨sa,oa,none⟩) cap L (E++[fC q (cT L X m) (Y.take (t+1))]) (F.add (cB (jb L (fC q (cT L X m) (Y.take (t+1)))||(b||fl)))) U w'∧aE S3 S3 wr w'):=by
        rw[HZ.out,No];refine HDE.mono ?_;rintro r w' ⟨h1,h2,h3⟩;rw[rZ]at h2;refine⟨h1,?_,h3⟩;rw[show((jb L (fC q (cT L X m) (Y.take t))||bc ((bC q (fC q (cT L X m) (Y.take t)).1 (fC q (cT L X m) (Y.take t)).2).map (aa L)) (aa L Y[t]))||(b||fl))=((jb L (fC q (cT L X m) (Y.take t))||(b||fl))||bc ((bC q (fC q (cT L X m) (Y.take t)).1 (fC q (cT L X m) (Y.take t)).2).map (aa L)) (aa L Y[t]))from Ed _ _ _];exact h2
       clear HDE HZ hSt3;generalize Y[t]=y at hcy HDE' y0 y1;have htk:(t:Int)<(nn:Int):=by rw[HNN.out];omega
       go_wp2_with fail;refine HDE'.out.mono ?_;rintro r w4 ⟨rfl,hSt4,hN4⟩;have hN5:=hN3.trans hN4;clear HDE';go_wp2;go_roundw
       case rel=>exact⟨t+1,S3,by go_num,by omega,hSt4,hN5⟩
       case measure=>simp[intOf];omega
      ·have e1:t=Y.length:=by omega
       have HT:Hid (St S3 c (some ⟨sa,oa,none⟩) cap L (E++[cT L X (m+1)]) (F.add (cB (jb L (cT L X (m+1))||(b||fl)))) U wr):=by
        rw[e1,List.take_of_length_le (Nat.le_refl _),←HDZ.out]at hSt3;exact hSt3
       have hN5:=hN2.trans hN3;have htk:¬(t:Int)<(nn:Int):=by rw[HNN.out];omega
       clear hSt3 e1;go_wp2;go_roundw
       case rel=>exact⟨m+1,b||fl,S3,by go_num,by omega,HT.out,hN5,HV2.out⟩
       case measure=>simp[intOf];omega
  ·have e1:m=k:=by omega
   subst e1;have HB:b=gO L v X:=by
    have:=HV.out;rw[List.drop_of_length_le (by omega)]at this;simpa[gO]using this
   rw[HB]at hSt;clear HB HV;have hXr:=hX1.OH hN;have HSD:=HSAID.out X HPL.out;rw[hkl]at HSD;have HSD':=aj HSD;have hmk:¬(m:Int)<(m:Int):=by omega
   clear HSD;go_wp2_with fail;refine(pH hR Sr (E++[cT L X m]) lp _ U i e X ad m cd _ hkl.symm hSt hXr HUP.out (by omega) (by omega) (by omega) (by simp;omega) hU).mono ?_;rintro r w2 ⟨rfl,S2,U2,hSt2,hN2,hU2⟩;rw[HSD'.out]at hSt2;have hNw:=(hN1.trans hN).trans hN2;go_wp2_with fail;refine(sd S2 c a cap L E _ _ U2 w2 hSt2).mono ?_;rintro r w3 ⟨rfl,hSt3,hN3⟩;have hNw3:=hNw.trans hN3;go_wp2;go_end0;exact⟨rfl,S2,U2,hSt3,hNw3,hU2⟩
end Q
namespace Q
theorem K4(s:Int):lA false ([],[]) s=([s],[]):=rfl
theorem Lh{a:Option Addr}{cap:Nat}{L:af}{c n:Nat}(hR:gh a cap L c n)(S:Nat→Prop)(E:bj)(F:Ot)(U:Nat)(y d:Int)(w:World)(h:St S c a cap L E F U w)(hy0:0≤y)(hy1:y<(L.length:Int))(hd:aH L d)(hn:2*aB L d+1≤n)(hE:E.length+(n+1)≤20000)(hU:(U:Int)≤d) :
  ah 189 #[.pointer (some ⟨c,0,none⟩),.int .i64 y,.int .i64 d] w fun r w'=>r=.returned (.tuple #[])∧∃S' U',St S' c a cap L E (F.add (wk L n 0 false d (aO (E++[([y],[])]) true))) U' w'∧aE S S' w w'∧(U':Int)≤ag L d:=by
 go_enter func189,ntmps189;go_wp2_with fail;refine(wx S c a cap L E F U w h (by omega)).mono ?_;rintro r w1 ⟨rfl,S1,hSt1,hN1⟩;go_wp2_with fail;refine(si S1 c a cap L E [] [] F U y false w1 hSt1 hy0 hy1).mono ?_;rintro r w2 ⟨rfl,hSt2,hN2⟩;rw[K4,show F.add (cB (bc ((bC false [] []).map (aa L)) (aa L y)))=F from Ot.OT F]at hSt2;have hN12:=hN1.trans hN2;clear hSt1 hN1 hN2 h;go_wp2_with fail;refine(hR S1 (E++[([y],[])]) true F U d w2 hSt2 hd hn (by simp;omega) hU).mono ?_;rintro r w3 ⟨rfl,S3,U3,hSt3,hN3,hU3⟩;have hN13:=hN12.trans hN3;clear hSt2 hN12 hN3;go_wp2_with fail;refine(sd S3 c a cap L E _ _ U3 w3 hSt3).mono ?_;rintro r w4 ⟨rfl,hSt4,hN4⟩;have hN14:=hN13.trans hN4;go_wp2;go_end0;exact⟨rfl,S3,U3,hSt4,hN14,hU3⟩
theorem wz(L:af)(f:Int→Ot):∀ps,aW (eE L f) ps=aW f (ca L ps)
 |[]=>rfl
 |p::ps=>by
  show(eE L f p).add (aW (eE L f) ps)=aW f (ca L (p::ps));rw[wz L f ps];show(if ae (aa L p) [40]then f (p+2)else Ot.none).add (aW f (ca L ps))=aW f (if ae (aa L p) [40]then(p+2)::ca L ps else ca L ps);split
  ·rfl
  ·exact Ot.Pc _
theorem FB(L:af)(n:Nat)(i:Int)(E:bj)(lp:Bool)(F:Ot)(ps:List Int)(b:Int)(hps:aT L (i+3)=ps)(hb:jR L i=b) :
  ((F.add (cB (gC L (ps.map (be L))))).add (aW (fun p=>wk L n 0 false p (aO (E++[(ps.map (be L),[])]) false)) (ca L ps))).add (wk L n 1 (decide (((ca L ps).length:Int)=0)) b (aO (E++[(ps.map (be L),[])]) false))=F.add (fD L (wk L n) i (aO E lp)):=by
 unfold fD;rw[hps,hb,AW E (ps.map (be L)) lp false,wz,Af,Ot.add_assoc,Ot.add_assoc]
theorem Lf{a:Option Addr}{cap:Nat}{L:af}{c n:Nat}(hR:gh a cap L c n)(hK:iq a cap L c n)(hL:L.length≤2000)(hsg:bQ L=true)(S:Nat→Prop)(E:bj)(lp:Bool)(F:Ot)(U:Nat)(i e7 e6:Int)(kq m:Nat)(ad:Option Addr)(cd:Nat)(w:World)(h:St S c a cap L E F U w)(hX:di S w ad (ar L m (e7+1)))
  (hi0:0≤i) (ho:ae (aa L (i+2)) [40]=true) (hit:0≤ag L (i+2)) (hq:iy L kq (i+3) e7) (h70:0≤e7) (h71:e7<(L.length:Int)) (h7:ae (aa L e7) [41]=true) (hbody:jR L i=e7+1) (hd:ey L m (e7+1) e6) (h60:0≤e6) (h61:e6<(L.length:Int)) (h6:ae (aa L e6) [41]=true)
  (hn:2*aB L i+1≤n+1) (hE:E.length+(n+1)≤20000) (hU:(U:Int)≤i) :
  ah 188 #[.pointer (some ⟨c,0,none⟩),.int .i64 (i+2),.slice ad m cd] w fun r w'=>r=.returned (.tuple #[])∧∃S' U',St S' c a cap L E (F.add (fD L (wk L n) i (aO E lp))) U' w'∧aE S S' w w'∧(U':Int)≤e6:=by
 obtain⟨i0,hi,hz0,hz1,hz2⟩:=info_parts qM;have hqe:=gJ kq _ hq h70;have hme:=gU m _ hd h60;have hf1:=jW (L:=L) hi0 (by omega:i<i+3) (by omega);have hf2:=jW (L:=L) (by omega:0≤i+3) (by omega:i+3<e7+1) (by omega);have hall:=uv kq _ hq h70;have hup:=xy kq _ hq h70;have hkl:=iR L kq (i+3);have HSAID:=FB L n i E lp F (ar L kq (i+3)) (e7+1) (rp hq h70 h71 h7) hbody;have HPI:Hid (∀W,aD W a L→ah 156 #[.slice a L.length cap,.int .i64 (i+2)] W fun e W'=>∃v,e=.returned v∧bY W' W.heap.size v (ar L kq (i+3))∧ai W W'):=fun W hA=>by
  have:=sO a cap L (i+2) e7 kq (by omega) hsg ho hit (by rw[show i+2+1=i+3 by omega];exact qd kq _ hq) h70 (by omega) (eo (Or.inr (Or.inr h7))) W hA;rw[show i+2+1=i+3 by omega]at this;exact this
 obtain⟨P,hP⟩:∃P,P=ar L kq (i+3):=⟨_,rfl⟩;rw[←hP]at hall hup hkl HSAID HPI;have HSD:=aj HSAID;have HUP:=aj hup;clear HSAID hP hup hbody;have fa:0≤i+3:=by omega
 have fb:(ca L P).length≤1048576:=by have:=sH L P;omega
 have fc:2*aB L (i+3)+1≤n:=by omega
 have fd:(E++[(P.map (be L),[])]).length+n≤20000:=by simp;omega
 have fe:(U:Int)≤i+3:=by omega
 have ff:2*aB L (e7+1)+2≤n:=by omega
 have HF:Hid (0≤i+3∧(ca L P).length≤1048576∧2*aB L (i+3)+1≤n∧(E++[(P.map (be L),[])]).length+n≤20000∧(U:Int)≤i+3∧2*aB L (e7+1)+2≤n):=⟨fa,fb,fc,fd,fe,ff⟩;clear fa fb fc fd fe ff;go_enter func188,ntmps188;go_wp2_with fail;refine(wx S c a cap L E F U w h (by omega)).mono ?_;rintro r w1 ⟨rfl,S1,hSt1,hN1⟩;have hX1:=hX.OH hN1;have HA1:Hid (j9 S1 w1 a L):=hSt1.2;have hlow:∀k,S1 k→k<w1.heap.size:=by
  obtain⟨⟨x,hM,_⟩,_⟩:=hSt1;exact fun k hk=>(hM.low k hk).2
 have HG0:Hid (bY (w1.alloc (.cells #[] 2)) w1.heap.size (.slice (some ⟨w1.heap.size,0,none⟩) 0 0) []):=World.ownsRow_made w1 #[] 0 (Nat.le_refl _) (Nat.zero_le _) rfl;obtain⟨W2,hW2⟩:∃W2,W2=w1.alloc (.cells #[] 2):=⟨_,rfl⟩;have hb2:ai w1 W2:=by rw[hW2];exact ay (Below.refl _ _) _
 have hz2':W2.heap.size=w1.heap.size+1:=by rw[hW2];simp
 rw[←hW2]at HG0;have hSt2:=hSt1.call hb2;obtain⟨⟨x,hM,hS⟩,hA⟩:=id hSt2;have hc0:(w1.alloc (.cells #[] 2)).cell? ⟨c,0,none⟩=some (.slice a L.length cap):=hW2▸hM.c0;clear h hX hSt1;go_wp2_with fail;rw[←hW2];refine(HPI.out _ hA.arg).mono ?_;rintro r w3 ⟨vp,rfl,hOp,hb3⟩;have hSt3:=hSt2.call hb3;have hN3:aE S1 S1 w1 w3:=(aE.j S1 hb2).trans (aE.j S1 hb3);have hG3:bY w3 w1.heap.size (.slice (some ⟨w1.heap.size,0,none⟩) 0 0) []:=cR HG0.out (fun g hg=>hb3.block g (World.ownsRow.lt HG0.out g hg).2);obtain⟨avp,cvp,rfl,hcvp,hRp⟩:=hOp.row (S:=fun k=>S1 k∨(Value.slice (some ⟨w1.heap.size,0,none⟩) 0 0).ownBlock=some k) (fun k hk=>by
  rcases hk with hk|hk
  ·have:=hlow k hk;omega
  ·have:w1.heap.size=k:=by simpa[Value.ownBlock]using hk
   omega)
 clear hW2 hc0 hM hS hA hb3 hb2 hOp HG0 hSt2 HPI hz2';rw[hkl];rw[hkl]at hcvp;have HALL:=aj hall;clear hall;go_wp2;go_loopw [6,20] (fun v6 v20 wr=>∃(t:Nat) (a6:Option Addr) (n6 cv6:Nat),v20=.int .i64 (t:Int)∧v6=.slice a6 n6 cv6∧n6=(ca L (P.take t)).length∧t≤kq∧St S1 c a cap L (E++[((P.take t).map (be L),[])]) (F.add (cB (gC L ((P.take t).map (be L))))) U wr∧bY wr w1.heap.size (.slice a6 n6 cv6) (ca L (P.take t))∧aE S1 S1 w1 wr∧di (fun k=>S1 k∨(Value.slice a6 n6 cv6).ownBlock=some k) wr avp P) (fun _ v20 _=>kq-(intOf v20).toNat)
 case atStart =>
  refine⟨0,_,_,_,rfl,rfl,rfl,Nat.zero_le _,?_,hG3,hN3,hRp⟩;rw[List.take_zero,show F.add (cB (gC L (([]:List Int).map (be L))))=F from Ot.OT F];exact hSt3
 case round =>
  clear hSt3 hG3 hN3 hRp;obtain⟨t,a6,n6,cv6,rfl,rfl,hn6,ht,hSt,hG,hN,hRp⟩:=hrel;by_cases htl:t<kq
  ·have htP:t<P.length:=by omega
   obtain⟨sp,op,rfl,hspz,hspn,hpc⟩:=hRp t htP;obtain⟨hpar,hp3,hpe⟩:=HALL.out _ (List.getElem_mem htP);obtain⟨hp0,hp1,hpc2⟩:=jY hpar;have HTK:Hid (P.take (t+1)=P.take t++[P[t]]):=List.take_succ_eq_append_getElem htP;generalize P[t]=p at hpc hpar hp3 hpe hp0 hp1 hpc2 HTK;obtain⟨⟨x,hM,hS⟩,hA⟩:=id hSt;have hc0:=hM.c0;obtain⟨pp,rfl⟩:∃pp:Nat,p=(pp:Int):=⟨p.toNat,by omega⟩;obtain⟨sa,oa,rfl,hac,ham,haz,_⟩:=hA.at (i:=(pp:Int)) hp0 hp1;have hac':wr.cell? ⟨sa,oa+pp,none⟩=some (.string (aa L pp)):=hac;have HO:=aj hG;have hgl:=sH L (P.take t);have hgl2:n6≤2000:=by simp at hgl;omega
   have HN6:=aj hn6;clear hn6 hgl;have htk:(t:Int)<(kq:Int):=by omega
   clear hac hG;rcases hpc2 with⟨h40,hnm,hp2,hiv,hpe2⟩|⟨h40,hnm,hpe2⟩
   ·have b40:((aa L pp).toList==[40])=true:=h40;have HPN:=aj (by unfold be;rw[h40];rfl:be L (pp:Int)=(pp:Int)+1);have HGV:=aj (by rw[HTK.out,vi];congr 1;unfold ca;rw[h40];rfl:ca L (P.take (t+1))=ca L (P.take t)++[(pp:Int)+2]);have hie:=hiv.ends;obtain⟨k2,e2,q1,q2,q3,q4,q5⟩:=iz h40 (by omega);have hit1:ag L ((pp:Int)+1)=(pp:Int)+2:=by rw[gw (by omega) (by omega) (dD hnm)];omega
    have HIT:Hid (∀W,aD W (some ⟨sa,oa,none⟩) L→ah 156 #[.slice (some ⟨sa,oa,none⟩) L.length cap,.int .i64 pp] W fun r W'=>∃v,r=.returned v∧bY W' W.heap.size v (ar L k2 ((pp:Int)+1))∧ai W W'):=fun W hA=>sO (some ⟨sa,oa,none⟩) cap L (pp:Int) e2 k2 (by omega) hsg h40 (by omega) q1 q2 (by omega) (eo (Or.inr (Or.inr q4))) W hA
    obtain⟨k3,rfl,_,q6⟩:=gk q1 (by omega);rw[hit1]at q6;obtain⟨k4,rfl,_,_⟩:=gk q6 (by omega);have HCH:=aj (by rw[iw,hit1,iw]:ar L (k4+1+1) ((pp:Int)+1)=((pp:Int)+1)::((pp:Int)+2)::ar L k4 (ag L ((pp:Int)+2)));have HDE:Hid (∀W,St S1 c (some ⟨sa,oa,none⟩) cap L (E++[((P.take t).map (be L),[])]) (F.add (cB (gC L ((P.take t).map (be L))))) U W→ah 118 #[.pointer (some ⟨c,0,none⟩),.int .i64 ((pp:Int)+1),.bool false] W fun e w'=>e=.returned (.tuple #[])∧St S1 c (some ⟨sa,oa,none⟩) cap L (E++[((P.take (t+1)).map (be L),[])]) (F.add (cB (gC L ((P.take (t+1)).map (be L))))) U w'∧aE S1 S1 W w'):=fun W hW=>by
     refine(si S1 c (some ⟨sa,oa,none⟩) cap L E ((P.take t).map (be L)) [] _ U ((pp:Int)+1) false W hW (by omega) hp2).mono ?_;rintro r w' ⟨h1,h2,h3⟩;rw[rZ]at h2;refine⟨h1,?_,h3⟩;rw[HTK.out,List.map_append,List.map_singleton,HPN.out,tP];exact h2
    have HST:=aj hSt;have hAT:=hA.arg;clear hSt h40 hM hS hA q1 q2 q3 q4 q5 q6 hit1 hnm hiv hie;generalize aa L (pp:Int)=s at hac' ham b40;go_wp2_with fail;refine(HIT.out _ hAT).mono ?_;rintro r w4 ⟨vq,rfl,hOq,hb4⟩;have hO4:bY w4 w1.heap.size (.slice a6 n6 cv6) (ca L (P.take t)):=cR HO.out (fun g hg=>hb4.block g (World.ownsRow.lt HO.out g hg).2);have hN4:=hN.O6 hb4;have hR4:=hRp.call hb4;have hSt4:=HST.out.call hb4;rw[HCH.out]at hOq;obtain⟨avq,cvq,rfl,hcvq,hRq⟩:=hOq.row (S:=fun k=>S1 k∨(Value.slice a6 n6 cv6).ownBlock=some k) (fun k hk=>by
     rcases hk with hk|hk
     ·have:=hlow k hk;have:=hN.size;omega
     ·exact(World.ownsRow.lt HO.out k hk).2)
    obtain⟨gq,oq,rfl,hgz,hgn,hg0⟩:=hRq 0 (by simp);have hg0':w4.cell? ⟨gq,oq,none⟩=some (.int .i64 ((pp:Int)+1)):=hg0;have hlq:(1:Int)<((((pp:Int)+1)::((pp:Int)+2)::ar L k4 (ag L ((pp:Int)+2))).length:Int):=by simp;omega
    have HRQ:=aj hRq;generalize (((pp:Int)+1)::((pp:Int)+2)::ar L k4 (ag L ((pp:Int)+2))).length=lq at hlq hcvq;clear HST hRp hN HO hb4 hOq hRq hg0 HIT hAT;go_wp2_with fail;refine(HDE.out _ hSt4).mono ?_;rintro r w5 ⟨rfl,hSt5,hN5⟩;have hwide:=hN5.wide (T:=fun k=>S1 k∨(Value.slice a6 n6 cv6).ownBlock=some k) (fun k hk=>Or.inl hk);have hR5:=hR4.OH hwide;have hO5:bY w5 w1.heap.size (.slice a6 n6 cv6) (ca L (P.take t)):=cR hO4 (fun g hg=>hN5.block g (World.ownsRow.lt hO4 g hg).2 (fun hs=>by have:=hlow g hs;have:=(World.ownsRow.lt hO4 g hg).1;omega));have hN15:=hN4.trans hN5;obtain⟨gq2,oq2,hqa,hgz5,hgn5,hg5⟩:=(HRQ.out.OH hwide) 1 (by simp);have hg5':w5.cell? ⟨gq,oq+1,none⟩=some (.int .i64 ((pp:Int)+2)):=by
     injection hqa with hqa;injection hqa with e1 e2 _;subst e1 e2;exact hg5
    have hO5':w5.ownsRow w1.heap.size 2 1 (.slice a6 n6 cv6) n6 ((ca L (P.take t)).map fun x=>.int .i64 x):=by
     have:=hO5;unfold bY at this;rwa [←HN6.out]at this
    have hz15:=hN15.size;have hcc2:∀u∈[Value.int .i64 ((pp:Int)+2)],u.oneCell'=true:=fun u hu=>by simp at hu;subst hu;rfl
    have hcc3:n6+1≤maxLen:=by unfold maxLen;omega
    have hcc4:(n6+1)*8≤140737488355328:=by omega
    have hcc5:w1.heap.size≤(w5.alloc (.cells #[.int .i64 ((pp:Int)+2)] 2)).heap.size:=by simp;omega
    have HO5:=aj hO5';clear hO4 hN4 hR4 hSt4 HRQ hN5 hwide hqa hg5 hg0' HDE hO5';go_wp2_with (at_builtin;refine j7 _ rfl (.tmp 46) (.tmp 50) 38 rfl w1.heap.size 2 i0 (.int .i64 0) 1 8 Tryz.underlying38 hi hz0 hz1 hz2 rfl (by decide) _ _ _ rfl (World.ownsRow.alloc HO5.out _) ⟨w5.heap.size,0,none⟩ 1 1 [.int .i64 ((pp:Int)+2)] rfl rfl (cell_one_new _ _ _) hcc2 hcc3 hcc4 hcc5 ?_)
    intro v' w6 hown hgrow hwh;obtain⟨a7,cv7,rfl,_,_,_,_⟩:=iM hown;have hO6:bY w6 w1.heap.size (.slice a7 (n6+1) cv7) (ca L (P.take (t+1))):=by
     rw[HGV.out];unfold bY;rw[List.length_append,List.map_append,←HN6.out];exact hown
    have hgk:∀k,k<w5.heap.size→(Value.slice a6 n6 cv6).ownBlock≠some k→w6.heap[k]?=w5.heap[k]?:=fun k hk hne=>(hgrow.block k (by simp;omega) (fun e=>hne e.symm)).trans (Below.heap_alloc _ _ _ hk)
    have hlo6:∀k,(Value.slice a6 n6 cv6).ownBlock=some k→w1.heap.size≤k:=fun k hk=>(World.ownsRow.lt HO5.out k hk).1
    have hN16:aE S1 S1 w1 w6:=(hN15.O6 (ay (Below.refl _ _) (.cells #[.int .i64 ((pp:Int)+2)] 2))).Pm hgrow hlo6;have hR6:di (fun k=>S1 k∨(Value.slice a7 (n6+1) cv7).ownBlock=some k) w6 (some ⟨sp,op,none⟩) P:=fun j hj=>by
     obtain⟨sb,off,r1,r2,r3,r4⟩:=hR5 j hj;have hk6:=hgk sb r2 (fun e=>r3 (Or.inr e));refine⟨sb,off,r1,by have:=hgrow.size;simp at this;omega,?_,(World.cell?_of_block (w:=w5) (a:=⟨sb,off+j,none⟩) hk6).trans r4⟩;rintro(hs|hs)
     ·exact r3 (Or.inl hs)
     ·rcases hwh sb hs with e|e
      ·exact r3 (Or.inr e)
      ·omega
    have hSt6:St S1 c (some ⟨sa,oa,none⟩) cap L (E++[((P.take (t+1)).map (be L),[])]) (F.add (cB (gC L ((P.take (t+1)).map (be L))))) U w6:=by
     obtain⟨⟨x,hM,hS⟩,_⟩:=hSt5;refine⟨⟨x,hM.R (fun k hk=>hgk k (by have:=hlow k hk;omega) (fun e=>by have:=hlo6 k e;have:=hlow k hk;omega)) (by have:=hgrow.size;simp at this;omega),hS⟩,HA1.out.OH hN16⟩
    clear hown hgrow hwh hgk hR5 hSt5 HO5 hO5 hN15;go_wp2;go_roundw
    case rel=>exact⟨t+1,a7,n6+1,cv7,by go_num,rfl,by rw[HGV.out,List.length_append,←HN6.out];rfl,by omega,hSt6,hO6,hN16,hR6⟩
    case measure=>simp[intOf];omega
   ·have b40:((aa L pp).toList==[40])=false:=h40;have HPN:=aj (by unfold be;rw[h40];rfl:be L (pp:Int)=(pp:Int));have HGV:=aj (by rw[HTK.out,vi];unfold ca;rw[h40];exact List.append_nil _:ca L (P.take (t+1))=ca L (P.take t));have HDE:=si S1 c (some ⟨sa,oa,none⟩) cap L E ((P.take t).map (be L)) [] _ U (pp:Int) false wr hSt hp0 hp1;have HDE':Hid (ah 118 #[.pointer (some ⟨c,0,none⟩),.int .i64 pp,.bool false] wr fun e w'=>e=.returned (.tuple #[])∧St S1 c (some ⟨sa,oa,none⟩) cap L (E++[((P.take (t+1)).map (be L),[])]) (F.add (cB (gC L ((P.take (t+1)).map (be L))))) U w'∧aE S1 S1 wr w'):=by
     refine HDE.mono ?_;rintro r w' ⟨h1,h2,h3⟩;rw[rZ]at h2;refine⟨h1,?_,h3⟩;rw[HTK.out,List.map_append,List.map_singleton,HPN.out,tP];exact h2
    clear HDE hSt h40 hM hS hA;generalize aa L (pp:Int)=s at hac' ham b40;go_wp2_with fail;refine HDE'.out.mono ?_;rintro r w4 ⟨rfl,hSt4,hN4⟩;have hO4:bY w4 w1.heap.size (.slice a6 n6 cv6) (ca L (P.take (t+1))):=by
     rw[HGV.out];exact cR HO.out (fun g hg=>hN4.block g (World.ownsRow.lt HO.out g hg).2 (fun hs=>by have:=hlow g hs;have:=(World.ownsRow.lt HO.out g hg).1;omega))
    have hN5:=hN.trans hN4;have hR5:=hRp.OH (hN4.wide (T:=fun k=>S1 k∨(Value.slice a6 n6 cv6).ownBlock=some k) (fun k hk=>Or.inl hk));clear HDE' hRp hN hN4 HO;go_wp2;go_roundw
    case rel=>exact⟨t+1,a6,n6,cv6,by go_num,rfl,by rw[HGV.out];exact HN6.out,by omega,hSt4,hO4,hN5,hR5⟩
    case measure=>simp[intOf];omega
  ·have e1:t=kq:=by omega
   subst e1;have hPt:P.take t=P:=List.take_of_length_le (by omega);rw[hPt]at hSt hG hn6;obtain⟨av6,cv6',hv6,_,hR6⟩:=hG.row (S:=S1) hlow;rw[←hn6]at hv6;injection hv6 with ea _ ec;subst ea ec;have hgl:=sH L P;have HN6:=aj hn6;clear hn6;have hXr:=hX1.OH hN;have hNw:=hN1.trans hN;have htk:¬(t:Int)<(t:Int):=by omega
   clear hG hRp hPt hX1 hN1 hN;go_wp2_with fail;refine(pH hR S1 (E++[(P.map (be L),[])]) false _ U (i+3) e7 (ca L P) a6 n6 cv6 _ HN6.out hSt hR6 HUP.out HF.out.1 HF.out.2.1 HF.out.2.2.1 HF.out.2.2.2.1 HF.out.2.2.2.2.1).mono ?_;rintro r w4 ⟨rfl,S4,U4,hSt4,hN4,hU4⟩;have hX4:=hXr.OH hN4;have hNw4:=hNw.trans hN4;have HKB:Hid (∀v,decide (((ca L P).length:Int)=0)=v→ah 61 #[.pointer (some ⟨c,0,none⟩),.slice ad m cd,.bool v,.bool false] w4 fun r w'=>r=.returned (.tuple #[])∧∃S' U',St S' c a cap L (E++[(P.map (be L),[])]) (F.add (fD L (wk L n) i (aO E lp))) U' w'∧aE S4 S' w4 w'∧(U':Int)≤e6):=fun v hv=>by
    subst hv;rw[←HSD.out];exact hK S4 (E++[(P.map (be L),[])]) false _ _ U4 (e7+1) e6 m ad cd w4 hSt4 hX4 hd (Or.inr h6) h60 (by omega) HF.out.2.2.2.2.2 HF.out.2.2.2.1 (by omega)
   clear hSt hR6 hXr hNw hSt4 hN4 hX4 HSD;by_cases hz6:n6=0
   ·have bz:((n6:Int)==0)=true:=by simp[hz6]
    have HKB':=HKB.out true (by rw[←HN6.out,hz6];rfl);have HKB'':=aj HKB';clear hz6 HKB HKB';go_wp2_with fail;refine HKB''.out.mono ?_;rintro r w5 ⟨rfl,S5,U5,hSt5,hN5,hU5⟩;have hNw5:=hNw4.trans hN5;clear HKB'';go_wp2_with fail;refine(sd S5 c a cap L E _ _ U5 w5 hSt5).mono ?_;rintro r w6 ⟨rfl,hSt6,hN6⟩;have hNw6:=hNw5.trans hN6;go_wp2;go_end0;exact⟨rfl,S5,U5,hSt6,hNw6,hU5⟩
   ·have bz:((n6:Int)==0)=false:=by simp;omega
    have HKB':=HKB.out false (by rw[←HN6.out];simp;omega);have HKB'':=aj HKB';clear hz6 HKB HKB';go_wp2_with fail;refine HKB''.out.mono ?_;rintro r w5 ⟨rfl,S5,U5,hSt5,hN5,hU5⟩;have hNw5:=hNw4.trans hN5;clear HKB'';go_wp2_with fail;refine(sd S5 c a cap L E _ _ U5 w5 hSt5).mono ?_;rintro r w6 ⟨rfl,hSt6,hN6⟩;have hNw6:=hNw5.trans hN6;go_wp2;go_end0;exact⟨rfl,S5,U5,hSt6,hNw6,hU5⟩
end Q
namespace Q
section
variable {L:af} {i:Int} (r:Nat→Bool→Int→Kn→Ot) (K:Kn)
theorem AF(ho:ae (aa L i) [40]=false):cH L r i K=if aV (aa L i)then df L K i else Ot.none:=by
 unfold cH;rw[ho];rfl
theorem AK(ho:ae (aa L i) [40]=true)(hc:ae (aa L (i+1)) [104,105,100,100,101,110]=true):cH L r i K=Ot.none:=by
 unfold cH;rw[ho,aZ hc];simp[aS]
theorem AS(ho:ae (aa L i) [40]=true)(hc:ae (aa L (i+1)) [118,97,114,115]=true):cH L r i K=Ot.none:=by
 unfold cH;rw[ho,aZ hc];simp[aS]
theorem AN(ho:ae (aa L i) [40]=true)(hc:ae (aa L (i+1)) [108,101,116]=true):cH L r i K=r 0 false (i+3) K:=by
 unfold cH;rw[ho,aZ hc];simp[aS]
theorem AR(ho:ae (aa L i) [40]=true)(hc:ae (aa L (i+1)) [116,97,107,101]=true):cH L r i K=r 0 false (ag L (i+2)) K:=by
 unfold cH;rw[ho,aZ hc];simp[aS]
theorem AQ(ho:ae (aa L i) [40]=true)(hc:ae (aa L (i+1)) [115,101,116]=true):cH L r i K=(df L K (i+2)).add (r 0 false (i+3) K):=by
 unfold cH;rw[ho,aZ hc];simp[aS]
theorem AJ(ho:ae (aa L i) [40]=true)(hc:ae (aa L (i+1)) [104,103,101,116]=true):cH L r i K=(dw L K (i+2)).add (aW (fun p=>r 0 false p K) (aT L (i+3))):=by
 unfold cH;rw[ho,aZ hc];simp[aS]
theorem AL(ho:ae (aa L i) [40]=true)(hc:ae (aa L (i+1)) [104,112,117,116]=true):cH L r i K=(dw L K (i+2)).add (aW (fun p=>r 0 false p K) (aT L (i+3))):=by
 unfold cH;rw[ho,aZ hc];simp[aS]
theorem AH(ho:ae (aa L i) [40]=true)(hc:ae (aa L (i+1)) [102,110]=true):cH L r i K=fD L r i K:=by
 unfold cH;rw[ho,aZ hc];simp[aS]
theorem AG(ho:ae (aa L i) [40]=true)(hc:ae (aa L (i+1)) [100,111]=true):cH L r i K=r 1 false (i+2) K:=by
 unfold cH;rw[ho,aZ hc];simp[aS]
theorem AT(ho:ae (aa L i) [40]=true)(hc:ae (aa L (i+1)) [119,104,105,108,101]=true):cH L r i K=(r 0 false (i+2) K).add (r 0 false (ag L (i+2)) (cj K true)):=by
 unfold cH;rw[ho,aZ hc];simp[aS]
theorem AI(ho:ae (aa L i) [40]=true)(hc:ae (aa L (i+1)) [102,111,114]=true):cH L r i K=(r 0 false (i+3) K).add ((r 0 false (ag L (i+3)) K).add (r 0 false (ag L (ag L (i+3))) (cz (cj K true) [i+2]))):=by
 unfold cH;rw[ho,aZ hc];simp[aS]
theorem AM(ho:ae (aa L i) [40]=true)(hc:ae (aa L (i+1)) [108,101,97,118,101]=true):cH L r i K=cB (!K.lp):=by
 unfold cH;rw[ho,aZ hc];simp[aS,cB]
theorem AO(ho:ae (aa L i) [40]=true)(hc:ae (aa L (i+1)) [110,101,120,116]=true):cH L r i K=cB (!K.lp):=by
 unfold cH;rw[ho,aZ hc];simp[aS,cB]
theorem AP(ho:ae (aa L i) [40]=true)(hhidden:ae (aa L (i+1)) [104,105,100,100,101,110]=false)(hvars:ae (aa L (i+1)) [118,97,114,115]=false)(hlet:ae (aa L (i+1)) [108,101,116]=false)(htake:ae (aa L (i+1)) [116,97,107,101]=false)(hset:ae (aa L (i+1)) [115,101,116]=false)(hhget:ae (aa L (i+1)) [104,103,101,116]=false)(hhput:ae (aa L (i+1)) [104,112,117,116]=false)(hfn:ae (aa L (i+1)) [102,110]=false)(hdo:ae (aa L (i+1)) [100,111]=false)(hwhile:ae (aa L (i+1)) [119,104,105,108,101]=false)(hfor:ae (aa L (i+1)) [102,111,114]=false)(hleave:ae (aa L (i+1)) [108,101,97,118,101]=false)(hnext:ae (aa L (i+1)) [110,101,120,116]=false):cH L r i K=aW (fun p=>r 0 false p K) (aT L (i+2)):=by
 unfold cH;rw[ho,hhidden,hvars,hlet,htake,hset,hhget,hhput,hfn,hdo,hwhile,hfor,hleave,hnext];simp
end
theorem Ld(S:Nat→Prop)(c:Nat)(a:Option Addr)(cap:Nat)(L:af)(E:bj)(lp:Bool)(F:Ot)(U:Nat)(i:Int)(w:World)(h:St S c a cap L E F U w)(hL:L.length≤2000)(hv:aH L i)(ho:ae (aa L i) [40]=false)(hU:(U:Int)≤i) :
  ah 186 #[.pointer (some ⟨c,0,none⟩),.int .i64 i] w fun e w'=>e=.returned (.tuple #[])∧∃S' U',St S' c a cap L E (F.add (if aV (aa L i)then df L (aO E lp) i else Ot.none)) U' w'∧aE S S' w w'∧(U':Int)≤ag L i:=by
 have hend:=hv.ends;have hone:=DQ hv ho;have e1:=B2 (aa L i);have HUSE:Hid (∀W,St S c a cap L E F U W→ah 187 #[.pointer (some ⟨c,0,none⟩),.int .i64 i,.bool false] W fun e w'=>e=.returned (.tuple #[])∧∃S',St S' c a cap L E (F.add (gE L false E i)) (U+1) w'∧aE S S' W w'):=fun W hW=>tS S c a cap L E F U i false W hW (by omega) (by omega) (by omega)
 obtain⟨⟨x,hM,hS⟩,hA⟩:=id h;obtain⟨sb,off,rfl,hsc,hsm,hsz,hsn⟩:=hA.at (i:=i) (by omega) (by omega);obtain⟨ii,rfl⟩:∃ii:Nat,i=(ii:Int):=⟨i.toNat,by omega⟩;have hsc':w.cell? ⟨sb,off+ii,none⟩=some (.string (aa L ii)):=hsc;have hc0:=hM.c0;have ht:=hA.PB;have hi1:(ii:Int)<(L.length:Int):=by omega
 clear hsc hM hS;cases hvi:fq (aa L ii)
 ·have hnm:aV (aa L ii)=true:=by rw[e1,hvi,Bool.false_or]at hone;exact hone
  have HF:=aj (by rw[hnm];rfl:(if aV (aa L ii)then df L (aO E lp) (ii:Int)else Ot.none)=gE L false E (ii:Int));have HV:=aj hvi;rw[HF.out];clear hvi hnm HF e1 hone;generalize hsg:aa L (ii:Int)=s at *;clear hsg;go_enter func186,ntmps186;go_wp2_with fail;refine(tW s _ hsm ht).mono ?_;rintro e w1 ⟨rfl,hb1⟩;rw[HV.out];generalize ik s=tk;generalize il s=tn;generalize im s=tt;have hW:ai w1 (w1.alloc (.cells #[.int .i64 tk,.int .i64 tn,.string tt] 171)):=ay (Below.refl _ _) _;have hB:=aw hb1 hW;have hSt:=h.call hB;clear h;go_wp2_with fail;refine(HUSE.out _ hSt).mono ?_;rintro e w2 ⟨rfl,S2,hSt2,hN2⟩;have hN:=(aE.j S hB).trans hN2;go_wp2;go_end0;exact⟨rfl,S2,U+1,hSt2,hN,by omega⟩
 ·have HF:=aj (by rw[N4 hvi];exact Ot.OT F:F.add (if aV (aa L ii)then df L (aO E lp) (ii:Int)else Ot.none)=F);have HV:=aj hvi;rw[HF.out];clear hvi HF e1 hone HUSE;generalize hsg:aa L (ii:Int)=s at *;clear hsg;go_enter func186,ntmps186;go_wp2_with fail;refine(tW s _ hsm ht).mono ?_;rintro e w1 ⟨rfl,hb1⟩;rw[HV.out];generalize ik s=tk;generalize il s=tn;generalize im s=tt;have hW:ai w1 (w1.alloc (.cells #[.int .i64 tk,.int .i64 tn,.string tt] 171)):=ay (Below.refl _ _) _;have hB:=aw hb1 hW;have hSt:=h.call hB;clear h;go_wp2;go_end0;exact⟨rfl,S,U,hSt,aE.j S hB,by omega⟩
end Q
end Go.Proofs.YtdojfommmpnbgaaGreatDoor
