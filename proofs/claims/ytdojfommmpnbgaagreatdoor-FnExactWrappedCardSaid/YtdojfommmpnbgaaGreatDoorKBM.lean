import Derived.Test.YtdojfommmpnbgaaGreatDoorKBE
import Derived.Test.YtdojfommmpnbgaaGreatDoorKBL
import Derived.Laws.AppendOwnNone
import Derived.Deep.RegionHeld3
import Derived.Deep.QuietTactic
import Derived.BigQuiet
import Derived.WalkSmall
import Derived.RegionTactic
import Derived.ChangeAlike
import Derived.BigRegion
set_option maxHeartbeats 4000000
set_option maxRecDepth 100000
namespace Go.Proofs.YtdojfommmpnbgaaGreatDoor
open Go.RowKit Go.Proofs.Tryz
def kB(w:World)(a:Option Addr)(X:List Int):Prop:=∀k (h:k<X.length),∃g o,a=some ⟨g,o,none⟩∧g<w.heap.size∧w.cell? ⟨g,o+k,none⟩=some (.int .i64 X[k])
theorem kB.call{w w':World}{a:Option Addr}{X:List Int}(h:kB w a X)(hb:ai w w'):kB w' a X:=fun k hk=>by
 obtain⟨g,o,ha,hg,hc⟩:=h k hk;exact⟨g,o,ha,Nat.lt_of_lt_of_le hg hb.size,(hb.cell (p:=⟨g,o+k,none⟩) hg).trans hc⟩
theorem bY.num{w:World}{B:Nat}{v:Value}{X:List Int}(h:bY w B v X):∃a c,v=.slice a X.length c∧kB w a X:=by
 obtain⟨av,cv,hv,_,hr⟩:=h.O2;refine⟨av,cv,hv,fun k hk=>?_⟩;obtain⟨sb,off,h1,h2,_,h4⟩:=hr k hk;exact⟨sb,off,h1,h2,h4⟩
theorem Gj(a:Option Addr)(c:Nat)(X:List Int)(x:Int)(T:Bool)(w:World)(HC:Hid (kB w a X))(hl:X.length≤5000)(HT:Hid ((X.any fun y=>x==y)=T)) :
  ah 161 #[.slice a X.length c,.int .i64 x] w fun e w'=>∃y:Int,e=.returned (.int .i64 y)∧(0≤y↔T=true)∧w'=w:=by
 go_enter func161,ntmps161;go_wp2;go_loop [5,8] (fun _ i=>∃k:Nat,k≤X.length∧i=.int .i64 (k:Int)∧Hid ((X.drop k).any (fun y=>x==y)=T)) (fun _ i=>X.length-(intOf i).toNat)
 case atStart=>exact⟨0,Nat.zero_le _,rfl,HT.out⟩
 case round =>
  obtain⟨k,hk,rfl,HA⟩:=hrel;by_cases hlt:k<X.length
  ·obtain⟨g,o,rfl,hg,hcell⟩:=HC.out k hlt;have HB:=aj (by rw[←HA.out,List.drop_eq_getElem_cons hlt];rfl:((x==X[k])||(X.drop (k+1)).any fun y=>x==y)=T);clear HA;generalize X[k]=t at hcell HB;cases hq:(x==t)
   ·have HN:=aj (by rw[←HB.out,hq];rfl:(X.drop (k+1)).any (fun y=>x==y)=T);clear HB;go_wp2;exact⟨⟨k+1,by omega,by go_num,HN.out⟩,by simp[intOf];omega⟩
   ·have HN:=aj (by rw[←HB.out,hq];rfl:T=true);clear HB;go_wp2;go_ret;exact⟨_,rfl,⟨fun _=>HN.out,fun _=>by omega⟩,rfl⟩
  ·have HN:=aj (by rw[←HA.out,List.drop_eq_nil_of_le (by omega)];rfl:T=false);clear HA;go_wp2;go_ret;exact⟨_,rfl,⟨fun h=>absurd h (by decide),fun h=>by rw[HN.out]at h;cases h⟩,rfl⟩
theorem Ez(a:Option Addr)(c:Nat)(X:List Int)(x:Int)(w:World)(hc:kB w a X)(hl:X.length≤5000) :
  ah 128 #[.slice a X.length c,.int .i64 x] w fun e w'=>e=.returned (.bool (X.any fun y=>x==y))∧w'=w:=by
 have HC:=aj hc;clear hc;obtain⟨T,hT⟩:∃T,(X.any fun y=>x==y)=T:=⟨_,rfl⟩;have HT:=aj hT;rw[hT];clear hT;go_enter func128,ntmps128;go_wp2_with fail;refine(Gj a c X x T _ HC hl HT).mono ?_;rintro e w1 ⟨y,rfl,hy,rfl⟩;cases T
 ·have hy0:¬0≤y:=fun hh=>by
   have:=hy.mp hh;cases this
  clear hy
  go_wp2
  go_ret
  exact⟨by simp[hy0],rfl⟩
 ·have hy0:0≤y:=hy.mpr rfl;clear hy;go_wp2;go_ret;exact⟨by simp,rfl⟩
theorem Fq(f:Int→List Int)(ps:List Int)(t:Nat):((ps.take t).flatMap f).length≤(ps.flatMap f).length:=by
 have:ps.flatMap f=(ps.take t).flatMap f++(ps.drop t).flatMap f:=by rw[←List.flatMap_append,List.take_append_drop]
 rw[this,List.length_append];omega
theorem EI(a:Option Addr)(cap:Nat)(L:af)(d:Nat)(y:Int)(w:World)(h:aD w a L)(hp:aR L=true)(hsg:bQ L=true)(hd:bU L (d:Int)=true) :
  ah 125 #[.slice a L.length cap,.agg #[.int .i64 d,.int .i64 y]] w fun e w'=>∃v,e=.returned v∧bY w' w.heap.size v (cQ L (d:Int))∧ai w w':=by
 have hL:=gy hp;obtain⟨i0,hi,hz0,hz1,hz2⟩:=info_parts qM;have hv:=sq hp hd;obtain⟨o1,o2⟩:=eM hd;have hve:=hv.ends;obtain⟨k,e,q1d,q2,q3⟩:=hv.OK o1 o2;have hse:=dH q2;obtain⟨q1,hdl⟩:=eK k _ q1d;have hplc:=ef q1 hse.1 (by omega) (bP q2);have hkl:=iR L k ((d:Int)+2);have hce:=eX k _ q1 hse.1;have hol:(cQ L (d:Int)).length≤2000:=by
  have h1:=qm q1d hse.1 (by omega) (bP q2);have h2:dI L ((d:Int)+2)=(cQ L (d:Int)).map (aa L):=by
   unfold dI cQ;rw[hplc,oT _ hdl]
  rw[h2,List.length_map]at h1;omega
 have HPP:Hid (∀W,aD W a L→ah 155 #[.slice a L.length cap,.int .i64 d] W fun r W'=>∃av cv,r=.returned (.slice av k cv)∧k≤cv∧dz W.heap.size W' av (ar L k ((d:Int)+2))∧ai W W'):=fun W hA=>iZ a cap L (d:Int) e k (by omega) hsg hv o1 (iv k _ q1) hse.1 hse.2 q2 W hA
 obtain⟨ps,hps⟩:∃ps,ps=ar L k ((d:Int)+2):=⟨_,rfl⟩;have HO:=aj (by unfold cQ;rw[hplc,hps]:cQ L (d:Int)=ps.flatMap (Q.aN L false));rw[←hps]at HPP hkl hdl;have HDL:=aj hdl;rw[HO.out]at hol ⊢;clear hplc hps hdl HO;obtain⟨W1,hW1⟩:∃W1,W1=(w.alloc (.cells #[.int .i64 d,.int .i64 y] 64)).alloc (.cells #[] 2):=⟨_,rfl⟩;have hB1:ai w W1:=by rw[hW1];exact ay (ay (Below.refl _ _) _) _
 have hz1':W1.heap.size=w.heap.size+1+1:=by rw[hW1];simp
 have hx1:W1.cell? ⟨w.heap.size,0,none⟩=some (.int .i64 d):=by rw[hW1];simp[go_sem]
 have HG0:Hid (bY W1 w.heap.size (.slice (some ⟨w.heap.size+1,0,none⟩) 0 0) []):=by
  have:((w.alloc (.cells #[.int .i64 d,.int .i64 y] 64)).alloc (.cells #[] 2)).ownsRow w.heap.size 2 1 (.slice (some ⟨(w.alloc (.cells #[.int .i64 d,.int .i64 y] 64)).heap.size,0,none⟩) 0 0) 0 []:=World.ownsRow_made _ #[] 0 (by simp) (Nat.zero_le _) rfl;rw[World.size_alloc]at this;rw[hW1];exact this
 go_enter func125,ntmps125;go_wp2_with fail;rw[←hW1];refine(HPP.out _ (h.call hB1)).mono ?_;rintro r w2 ⟨av,cv,rfl,hcv,hRN,hb2⟩;have hB2:=aw hB1 hb2;have hG2:bY w2 w.heap.size (.slice (some ⟨w.heap.size+1,0,none⟩) 0 0) []:=cR HG0.out (fun g hg=>hb2.block g (World.ownsRow.lt HG0.out g hg).2);have hR2:di (fun b=>(Value.slice (some ⟨w.heap.size+1,0,none⟩) 0 0).ownBlock=some b) w2 av ps:=hRN.row (fun b hb=>by
  have:w.heap.size+1=b:=by simpa[Value.ownBlock]using hb
  omega)
 clear HPP hRN hb2 HG0 hx1 hW1;go_wp2;go_loopw [5,7,8,9,16] (fun v5 _ _ _ v16 wr=>∃(t:Nat) (a5:Option Addr) (n5 c5:Nat),v16=.int .i64 (t:Int)∧v5=.slice a5 n5 c5∧n5=((ps.take t).flatMap (Q.aN L false)).length∧t≤k∧bY wr w.heap.size (.slice a5 n5 c5) ((ps.take t).flatMap (Q.aN L false))∧di (fun b=>(Value.slice a5 n5 c5).ownBlock=some b) wr av ps∧ai w wr) (fun _ _ _ _ v16 _=>k-(intOf v16).toNat)
 case atStart=>exact⟨0,_,_,_,rfl,rfl,rfl,Nat.zero_le _,hG2,hR2,hB2⟩
 case round =>
  clear hG2 hR2 hB2;obtain⟨t,a5,n5,c5,rfl,rfl,hn5,ht,hG,hR,hB⟩:=hrel;by_cases htl:t<k
  ·have htP:t<ps.length:=by omega
   obtain⟨sp,op,rfl,hspz,hspn,hpc⟩:=hR t htP;have hdp:=HDL.out _ (List.getElem_mem htP);have HTK:=aj (by rw[List.take_succ_eq_append_getElem htP,List.flatMap_append];simp:(ps.take (t+1)).flatMap (Q.aN L false)=(ps.take t).flatMap (Q.aN L false)++Q.aN L false ps[t]);have hlen:=Fq (Q.aN L false) ps (t+1);have HDB:Hid (∀W,aD W a L→ah 117 #[.slice a L.length cap,.int .i64 ps[t]] W fun r W'=>∃av n cv,r=.returned (.tuple #[.slice av n cv,.bool (cY L ps[t])])∧n=(dm L ps[t]).length∧dz W.heap.size W' av (dm L ps[t])∧ai W W'):=fun W hA=>y5 a cap L _ (by omega) hsg hdp W hA
   rw[HTK.out,List.length_append]at hlen;have HPI:Hid (Q.aN L false ps[t]=if cY L ps[t]=false then dm L ps[t]else []):=(rfl:Q.aN L false ps[t]=if cY L ps[t]=false then dm L ps[t]else []);rw[HPI.out]at HTK hlen;have HN5:=aj hn5;rw[←hn5]at hlen;have htk:(t:Int)<(k:Int):=by omega
   clear HPI hdp hn5;generalize ps[t]=p at hpc HTK HDB hlen;go_wp2_with fail;refine(HDB.out _ (h.call hB)).mono ?_;rintro r w4 ⟨an,nn,cn,rfl,hnn,hRn,hb4⟩;have hB4:=aw hB hb4;have hG4:bY w4 w.heap.size (.slice a5 n5 c5) ((ps.take t).flatMap (Q.aN L false)):=cR hG (fun g hg=>hb4.block g (World.ownsRow.lt hG g hg).2);have hR4:di (fun b=>(Value.slice a5 n5 c5).ownBlock=some b) w4 (some ⟨sp,op,none⟩) ps:=fun j hj=>by
    obtain⟨sb,off,r1,r2,r3,r4⟩:=hR j hj;exact⟨sb,off,r1,Nat.lt_of_lt_of_le r2 hb4.size,r3,(hb4.cell (p:=⟨sb,off+j,none⟩) r2).trans r4⟩
   have hlow:=hb4.size;clear HDB hG hR;cases hb:cY L p
   ·rw[hb,if_pos rfl]at HTK hlen;obtain⟨X,hX⟩:∃X,X=dm L p:=⟨_,rfl⟩;rw[←hX]at HTK hlen hnn hRn;have HNN:=aj hnn;have hnb:nn≤2000:=by omega
    have hnb5:n5≤2000:=by omega
    clear hX hnn;cases an with
    |none =>
     have hX0:X=[]:=by
      cases X with
      |nil=>rfl
      |cons x X =>
       obtain⟨_,_,h1,_⟩:=hRn 0 (by simp);cases h1
     subst hX0;have hn0:nn=0:=HNN.out;subst hn0;have HT2:=aj (by rw[HTK.out,List.append_nil]:(ps.take (t+1)).flatMap (Q.aN L false)=(ps.take t).flatMap (Q.aN L false));have hO4:w4.ownsRow w.heap.size 2 1 (.slice a5 n5 c5) n5 (((ps.take t).flatMap (Q.aN L false)).map fun x=>.int .i64 x):=by
      have:=hG4;unfold bY at this;rwa [←HN5.out]at this
     have HF:Hid (∀W,w4.heap=W.heap→bY W w.heap.size (.slice a5 n5 c5) ((ps.take (t+1)).flatMap (Q.aN L false))):=fun W hW=>by
      rw[HT2.out];exact cR hG4 (fun g _=>by rw[hW])
     have hHF:=HF.out w4 rfl;have HN6:=aj (by rw[HT2.out];exact HN5.out:n5=((ps.take (t+1)).flatMap (Q.aN L false)).length);have HHF:=aj hHF;rcases id hO4.2 with⟨hv0,_⟩|⟨g5,cp5,cur5,hv0,_,_,hcp1,hcp2,_⟩
     ·injection hv0 with e1 e2 e3;subst e1 e2 e3;clear HF HT2 HN5 HTK hlen hO4 hG4 HNN hRn hHF;go_wp2;go_roundw
      case rel=>exact⟨t+1,none,0,0,by go_num,rfl,HN6.out,by omega,HHF.out,hR4,hB4⟩
      case measure=>simp[intOf];omega
     ·injection hv0 with e1 e2 e3;subst e1 e3;have hcp3:(n5:Int)≤(c5:Int):=by omega
      clear HF HT2 HN5 HTK hlen hO4 hG4 HNN hRn hHF e2;go_wp2;go_roundw
      case rel=>exact⟨t+1,some ⟨g5,0,none⟩,n5,c5,by go_num,rfl,HN6.out,by omega,HHF.out,hR4,hB4⟩
      case measure=>simp[intOf];omega
    |some ad =>
     obtain⟨gn,on,fn⟩:=ad;have hcc1:∀j u,(X.map fun x=>Value.int .i64 x)[j]?=some u→w4.cell? ((⟨gn,on,fn⟩:Addr).add j)=some u:=fun j u hj=>by
      rw[List.getElem?_map]at hj;obtain⟨x,hx,rfl⟩:=Option.map_eq_some_iff.1 hj;obtain⟨hjl,hxe⟩:=List.getElem?_eq_some_iff.1 hx;obtain⟨sb,off,r1,r2,r3,r4⟩:=hRn j hjl;injection r1 with r1;injection r1 with e1 e2 e3;subst e1 e2 e3;have hadd:∀j,(⟨gn,on,none⟩:Addr).add j=⟨gn,on+j,none⟩:=fun j=>by unfold Addr.add;split<;>simp_all
      rw[hadd,r4,hxe]
     have hcc2:∀u∈X.map (fun x=>Value.int .i64 x),u.oneCell'=true:=fun u hu=>by
      obtain⟨x,_,rfl⟩:=List.mem_map.mp hu;rfl
     have hcl:(X.map fun x=>Value.int .i64 x).length=nn*1:=by rw[List.length_map,Nat.mul_one];exact HNN.out.symm
     have hcc3:n5+nn≤maxLen:=by unfold maxLen;omega
     have hcc4:(n5+nn)*8≤140737488355328:=by omega
     have hcc5:w.heap.size≤w4.heap.size:=hB4.size;have hO4:w4.ownsRow w.heap.size 2 1 (.slice a5 n5 c5) n5 (((ps.take t).flatMap (Q.aN L false)).map fun x=>.int .i64 x):=by
      have:=hG4;unfold bY at this;rwa [←HN5.out]at this
     go_wp2_with (at_builtin;refine j7 _ rfl (.tmp 28) (.tmp 29) 38 rfl w.heap.size 2 i0 (.int .i64 0) 1 8 Tryz.underlying38 hi hz0 hz1 hz2 rfl (by decide) _ _ _ rfl hO4 ⟨gn,on,fn⟩ nn cn (X.map fun x=>.int .i64 x) rfl hcl hcc1 hcc2 hcc3 hcc4 hcc5 ?_)
     intro v' w6 hown hgrow hwh;obtain⟨a7,c7,rfl,_,_,_,_⟩:=iM hown;have hO6:bY w6 w.heap.size (.slice a7 (n5+nn) c7) ((ps.take (t+1)).flatMap (Q.aN L false)):=by
      rw[HTK.out];unfold bY;rw[List.length_append,List.map_append,←HN5.out,←HNN.out];exact hown
     have hlo6:∀g,(Value.slice a5 n5 c5).ownBlock=some g→w.heap.size≤g:=fun g hg=>(World.ownsRow.lt hO4 g hg).1
     have hB6:ai w w6:=hB4.grown hgrow hB4.size hlo6;have hR6:di (fun b=>(Value.slice a7 (n5+nn) c7).ownBlock=some b) w6 (some ⟨sp,op,none⟩) ps:=fun j hj=>by
      obtain⟨sb,off,r1,r2,r3,r4⟩:=hR4 j hj;have hk6:w6.heap[sb]?=w4.heap[sb]?:=hgrow.block sb r2 (fun e=>r3 e.symm);refine⟨sb,off,r1,Nat.lt_of_lt_of_le r2 hgrow.size,?_,(World.cell?_of_block (w:=w4) (a:=⟨sb,off+j,none⟩) hk6).trans r4⟩;intro hs;rcases hwh sb hs with e|e
      ·exact r3 e
      ·omega
     clear hown hgrow hwh hcc1 hcc2 hcl hcc3 hcc4 hcc5 hR4 hG4 hO4;go_wp2;go_roundw
     case rel=>exact⟨t+1,a7,n5+nn,c7,by go_num,rfl,by rw[HTK.out,List.length_append,←HN5.out,←HNN.out],by omega,hO6,hR6,hB6⟩
     case measure=>simp[intOf];omega
   ·rw[hb,if_neg (by decide),List.append_nil]at HTK;have hO4:bY w4 w.heap.size (.slice a5 n5 c5) ((ps.take (t+1)).flatMap (Q.aN L false)):=by rw[HTK.out];exact hG4
    clear hG4;go_wp2;go_roundw
    case rel=>exact⟨t+1,a5,n5,c5,by go_num,rfl,by rw[HTK.out];exact HN5.out,by omega,hO4,hR4,hB4⟩
    case measure=>simp[intOf];omega
  ·have e1:t=k:=by omega
   subst e1;have HE:Hid (bY wr w.heap.size (.slice a5 n5 c5) (ps.flatMap (Q.aN L false))):=by
    rw[List.take_of_length_le (by omega)]at hG;exact hG
   clear hG hn5;go_wp2;go_ret;exact⟨_,rfl,HE.out,hB⟩
def lK(w:World)(b9 b7 b5:Nat)(v9 v7:Value)(d at_ dc:Int)(x:World):Prop:=(x.cell? ⟨w.heap.size,0,none⟩=some (.int .i64 at_)∧x.cell? ⟨w.heap.size,1,none⟩=some (.int .i64 dc))∧(x.cell? ⟨b9,0,none⟩=some v9∧x.cell? ⟨b7,0,none⟩=some v7∧x.cell? ⟨b5,0,none⟩=some (.int .i64 d))∧(w.heap.size<x.heap.size∧b9<w.heap.size∧b7<w.heap.size∧b5<w.heap.size)∧ai w x
theorem lK.call{w x y:World}{b9 b7 b5:Nat}{v9 v7:Value}{d at_ dc:Int}(h:lK w b9 b7 b5 v9 v7 d at_ dc x)(hb:ai x y):lK w b9 b7 b5 v9 v7 d at_ dc y:=by
 obtain⟨⟨h1,h2⟩,⟨h3,h4,h5⟩,⟨h6,h7,h8,h9⟩,h10⟩:=h;exact⟨⟨(hb.cell (p:=⟨w.heap.size,0,none⟩) h6).trans h1,(hb.cell (p:=⟨w.heap.size,1,none⟩) h6).trans h2⟩,⟨(hb.cell (p:=⟨b9,0,none⟩) (Nat.lt_trans h7 h6)).trans h3,(hb.cell (p:=⟨b7,0,none⟩) (Nat.lt_trans h8 h6)).trans h4,(hb.cell (p:=⟨b5,0,none⟩) (Nat.lt_trans h9 h6)).trans h5⟩,⟨Nat.lt_of_lt_of_le h6 hb.size,h7,h8,h9⟩,aw h10 hb⟩
theorem lK.drew{w x:World}{b9 b7 b5:Nat}{v9 v7:Value}{d at_ dc:Int}(h:lK w b9 b7 b5 v9 v7 d at_ dc x):lK w b9 b7 b5 v9 v7 d at_ dc x.drew:=⟨h.1,h.2.1,h.2.2.1,h.2.2.2.drew⟩
def kt(X:List Int)(K:List (Int × Int))(d:Int)(u:Int × Int × Bool):Bool:=(X.any fun y=>u.2.1==y)&&decide (d<bM u.1 K (-1))
theorem GA(X:List Int)(K:List (Int × Int))(d:Int)(u:Int × Int × Bool)(b9 b7 b5:Nat)(a9 a7:Option Addr)(c9 c7:Nat)(w:World)(h9:w.cell? ⟨b9,0,none⟩=some (.slice a9 X.length c9))(h7:w.cell? ⟨b7,0,none⟩=some (.slice a7 K.length c7))(h5:w.cell? ⟨b5,0,none⟩=some (.int .i64 d))(hX:kB w a9 X)(hK:dr w a7 K)(hXl:X.length≤5000)(hKl:K.length≤5000) :
  ah 127 #[.agg #[.int .i64 u.1,.int .i64 u.2.1,.bool u.2.2],.pointer (some ⟨b9,0,none⟩),.pointer (some ⟨b7,0,none⟩),.pointer (some ⟨b5,0,none⟩)] w (aA (.bool (kt X K d u)) w):=by
 have z9:=World.block_lt_of_cell? w _ h9;have z7:=World.block_lt_of_cell? w _ h7;have z5:=World.block_lt_of_cell? w _ h5;obtain⟨at_,dc,sc⟩:=u;unfold kt;simp only;have hB0:=ay (Below.refl w.heap.size w) (.cells #[.int .i64 at_,.int .i64 dc,.bool sc] 142);obtain⟨w0,hw0⟩:∃w0,w0=w.alloc (.cells #[.int .i64 at_,.int .i64 dc,.bool sc] 142):=⟨_,rfl⟩;have hT:lK w b9 b7 b5 (.slice a9 X.length c9) (.slice a7 K.length c7) d at_ dc w0:=by
  rw[hw0];exact⟨⟨by simp[go_sem],by simp[go_sem]⟩,⟨(hB0.cell (p:=⟨b9,0,none⟩) z9).trans h9,(hB0.cell (p:=⟨b7,0,none⟩) z7).trans h7,(hB0.cell (p:=⟨b5,0,none⟩) z5).trans h5⟩,⟨by simp,z9,z7,z5⟩,hB0⟩
 have HC:Hid (∀W:World,ai w W→ah 128 #[.slice a9 X.length c9,.int .i64 dc] W fun e w'=>e=.returned (.bool (X.any fun y=>dc==y))∧w'=W):=fun W hW=>Ez a9 c9 X dc W (hX.call hW) hXl
 have HI:Hid (∀W:World,ai w W→ah 67 #[.slice a7 K.length c7,.int .i64 at_] W (aA (.int .i64 (bM at_ K (-1))) W)):=fun W hW=>vv a7 c7 K at_ W (hK.call hW) hKl
 generalize (X.any fun y=>dc==y)=cb at HC ⊢;generalize bM at_ K (-1)=mx at HI ⊢;generalize X.length=xl at *;generalize K.length=kl at *;clear hB0 hX hK hXl hKl h9 h7 h5;cases cb
 ·go_enter func127,ntmps127;go_upto_region 1 with fail;rw[←hw0];clear hw0;obtain⟨⟨t1,t2⟩,⟨t3,t4,t5⟩,t6,t7⟩:=hT;go_quiet ((go_at_call 128;exact Calls.quiet_of_same (HC.out _ (below_drewN t7 _))));go_wp2;go_ret;exact⟨rfl,below_drewN t7 _⟩
 ·go_enter func127,ntmps127;go_upto_region 1 with fail;rw[←hw0];clear hw0
  go_region_held3 (fun x=>(x.cell? ⟨w.heap.size,0,none⟩=some (.int .i64 at_)∧x.cell? ⟨w.heap.size,1,none⟩=some (.int .i64 dc))∧(x.cell? ⟨b9,0,none⟩=some (.slice a9 xl c9)∧x.cell? ⟨b7,0,none⟩=some (.slice a7 kl c7)∧x.cell? ⟨b5,0,none⟩=some (.int .i64 d))∧(w.heap.size<x.heap.size∧b9<w.heap.size∧b7<w.heap.size∧b5<w.heap.size)∧ai w x)
   ((show lK w b9 b7 b5 (.slice a9 xl c9) (.slice a7 kl c7) d at_ dc _;first|(with_reducible exact hT3)|(with_reducible exact hT.drew)))
   (first
    |(go_at_call 67;have hW3:=hT3.2.2.2;refine(HI.out _ hW3).mono ?_;rintro e w4 ⟨rfl,hb4⟩;have hT3:=lK.call hT3 hb4)
    |(go_at_call 128;have hW3:=hT.drew.2.2.2;refine(HC.out _ hW3).mono ?_;rintro e w3 ⟨rfl,rfl⟩;have hT3:=hT.drew)
    |fail)
  all_goals go_wp2
  all_goals go_ret
  all_goals exact⟨rfl,hT3.2.2.2⟩
def nu(w:World)(a:Option Addr)(U:List (Int × Int × Bool)):Prop:=∀k (h:k<U.length),∃g,a=some ⟨g,0,none⟩∧g<w.heap.size∧w.cell? ⟨g,k*3,none⟩=some (.int .i64 U[k].1)∧w.cell? ⟨g,k*3+1,none⟩=some (.int .i64 U[k].2.1)∧w.cell? ⟨g,k*3+2,none⟩=some (.bool U[k].2.2)
theorem nu.call{w w':World}{a:Option Addr}{U:List (Int × Int × Bool)}(h:nu w a U)(hb:ai w w'):nu w' a U:=fun k hk=>by
 obtain⟨g,ha,hg,h1,h2,h3⟩:=h k hk;exact⟨g,ha,Nat.lt_of_lt_of_le hg hb.size,(hb.cell (p:=⟨g,k*3,none⟩) hg).trans h1,(hb.cell (p:=⟨g,k*3+1,none⟩) hg).trans h2,(hb.cell (p:=⟨g,k*3+2,none⟩) hg).trans h3⟩
theorem zQ:∀(us:List (Int × Int × Bool)) (k:Nat) (h:k<us.length),(gW us)[k*3]?=some (.int .i64 us[k].1)∧(gW us)[k*3+1]?=some (.int .i64 us[k].2.1)∧(gW us)[k*3+2]?=some (.bool us[k].2.2)
 |[],k,h=>absurd h (Nat.not_lt_zero _)
 |u::us,0,_=>⟨rfl,rfl,rfl⟩
 |u::us,k+1,h=>by
  have ih:=zQ us k (by simpa using h);have e:gW (u::us)=.int .i64 u.1::.int .i64 u.2.1::.bool u.2.2::gW us:=rfl;rw[e,show(k+1)*3=k*3+1+1+1 by omega,show k*3+1+1+1+1=(k*3+1)+1+1+1 by omega,show k*3+1+1+1+2=(k*3+2)+1+1+1 by omega];simpa using ih
theorem Nx{w:World}{B:Nat}{v:Value}{U:List (Int × Int × Bool)}(h:w.ownsRow B 142 3 v U.length (gW U)):∃a c,v=.slice a U.length c∧nu w a U:=by
 obtain⟨av,cv,hv,hcv,_,hn,hs⟩:=iM h;refine⟨av,cv,hv,fun k hk=>?_⟩;cases av with
 |none=>exact absurd (hn rfl) (by omega)
 |some p =>
  obtain⟨g,rfl,_⟩:=hs p rfl;obtain⟨f1,f2,f3⟩:=zQ U k hk;have hadd:∀j,(⟨g,0,none⟩:Addr).add j=⟨g,j,none⟩:=fun j=>by unfold Addr.add;split<;>simp_all
  have hob:v.ownBlock=some g:=by rw[hv];simp[Value.ownBlock]
  have d1:=World.ownsRow.cells h hob _ _ f1;have d2:=World.ownsRow.cells h hob _ _ f2;have d3:=World.ownsRow.cells h hob _ _ f3;rw[hadd]at d1 d2 d3;exact⟨g,rfl,(World.ownsRow.lt h g hob).2,d1,d2,d3⟩
theorem Gi(a:Option Addr)(c:Nat)(U:List (Int × Int × Bool))(f:Int × Int × Bool→Bool)(p9 p7 p5:Value)(T:Bool)(w:World)(hU:nu w a U)(hl:U.length≤5000)(HT:Hid (U.any f=T))
  (HF:Hid (∀(u:Int × Int × Bool) (W:World),ai w W→ah 127 #[.agg #[.int .i64 u.1,.int .i64 u.2.1,.bool u.2.2],p9,p7,p5] W (aA (.bool (f u)) W))) :
  ah 160 #[.slice a U.length c,.func (.func 127) #[] #[p9,p7,p5]] w fun e w'=>∃y:Int,e=.returned (.int .i64 y)∧(0≤y↔T=true)∧ai w w':=by
 go_enter func160,ntmps160;go_wp2;go_loopw [5,8] (fun _ i wr=>∃k:Nat,k≤U.length∧i=.int .i64 (k:Int)∧Hid ((U.drop k).any f=T)∧ai w wr) (fun _ i _=>U.length-(intOf i).toNat)
 case atStart=>exact⟨0,Nat.zero_le _,rfl,HT.out,Below.refl _ _⟩
 case round =>
  obtain⟨k,hk,rfl,HA,hB⟩:=hrel;by_cases hlt:k<U.length
  ·obtain⟨g,rfl,hg,c1,c2,c3⟩:=hU.call hB k hlt;have HB:=aj (by rw[←HA.out,List.drop_eq_getElem_cons hlt];rfl:(f U[k]||(U.drop (k+1)).any f)=T);have HC:Hid (ah 127 #[.agg #[.int .i64 U[k].1,.int .i64 U[k].2.1,.bool U[k].2.2],p9,p7,p5] wr (aA (.bool (f U[k])) wr)):=HF.out U[k] wr hB;clear HA;generalize f U[k]=o at HB HC;generalize U[k].1=u1 at c1 HC;generalize U[k].2.1=u2 at c2 HC;generalize U[k].2.2=u3 at c3 HC;go_wp2_with fail;refine HC.out.mono ?_;rintro r w2 ⟨rfl,hb2⟩;have hB2:=aw hB hb2;cases o
   ·go_wp2;go_roundw
    case rel=>exact⟨k+1,by omega,by go_num,HB.out,hB2⟩
    case measure=>simp[intOf];omega
   ·have hTt:T=true:=HB.out.symm;have HN:=aj hTt;clear hTt HB;go_wp2;go_ret;exact⟨_,rfl,⟨fun _=>HN.out,fun _=>by omega⟩,hB2⟩
  ·have HN:=aj (by rw[←HA.out,List.drop_eq_nil_of_le (by omega)];rfl:T=false);clear HA;go_wp2;go_ret;exact⟨_,rfl,⟨fun h=>absurd h (by decide),fun h=>by rw[HN.out]at h;cases h⟩,hB⟩
theorem Ey(a:Option Addr)(c:Nat)(U:List (Int × Int × Bool))(f:Int × Int × Bool→Bool)(p9 p7 p5:Value)(w:World)(hU:nu w a U)(hl:U.length≤5000)
  (HF:Hid (∀(u:Int × Int × Bool) (W:World),ai w W→ah 127 #[.agg #[.int .i64 u.1,.int .i64 u.2.1,.bool u.2.2],p9,p7,p5] W (aA (.bool (f u)) W))) :
  ah 126 #[.slice a U.length c,.func (.func 127) #[] #[p9,p7,p5]] w (aA (.bool (U.any f)) w):=by
 obtain⟨T,hT⟩:∃T,U.any f=T:=⟨_,rfl⟩;have HT:=aj hT;rw[hT];clear hT;go_enter func126,ntmps126;go_wp2_with fail;refine(Gi a c U f p9 p7 p5 T _ hU hl HT HF).mono ?_;rintro e w1 ⟨y,rfl,hy,hb1⟩;cases T
 ·have hy0:¬0≤y:=fun hh=>by
   have:=hy.mp hh;cases this
  clear hy
  go_wp2
  go_ret
  exact⟨by simp[hy0],hb1⟩
 ·have hy0:0≤y:=hy.mpr rfl;clear hy;go_wp2;go_ret;exact⟨by simp,hb1⟩
theorem GB(a:Option Addr)(cap:Nat)(L:af)(d:Nat)(y:Int)(U:List (Int × Int × Bool))(K:List (Int × Int))(au ak:Option Addr)(cu ck:Nat)(w:World)(h:aD w a L)(hp:aR L=true)(hsg:bQ L=true)(hd:bU L (d:Int)=true)(hU:nu w au U)(hK:dr w ak K)(hUl:U.length≤5000)(hKl:K.length≤5000)(hol:(cQ L (d:Int)).length≤5000) :
  ah 65 #[.slice a L.length cap,.agg #[.int .i64 d,.int .i64 y],.slice au U.length cu,.slice ak K.length ck] w (aA (.bool (U.any (kt (cQ L (d:Int)) K (d:Int)))) w):=by
 have HD:Hid (∀W:World,aD W a L→ah 125 #[.slice a L.length cap,.agg #[.int .i64 d,.int .i64 y]] W fun e w'=>∃v,e=.returned v∧bY w' W.heap.size v (cQ L (d:Int))∧ai W w'):=fun W hW=>EI a cap L d y W hW hp hsg hd
 generalize cQ L (d:Int)=X at HD hol ⊢;obtain⟨T,hTe⟩:∃T,U.any (kt X K (d:Int))=T:=⟨_,rfl⟩;have HTe:=aj hTe;rw[hTe];clear hTe;obtain⟨W1,hW1⟩:∃W1,W1=(w.alloc (.cells #[.int .i64 d,.int .i64 y] 64)).alloc (.cells #[.slice ak K.length ck] 60):=⟨_,rfl⟩;have hB1:ai w W1:=by rw[hW1];exact ay (ay (Below.refl _ _) _) _
 have hz1:W1.heap.size=w.heap.size+1+1:=by rw[hW1];simp
 have k5:W1.cell? ⟨w.heap.size,0,none⟩=some (.int .i64 d)∧W1.cell? ⟨w.heap.size,1,none⟩=some (.int .i64 y):=by rw[hW1];constructor<;>simp[go_sem]
 have k7:W1.cell? ⟨w.heap.size+1,0,none⟩=some (.slice ak K.length ck):=by rw[hW1];simp[go_sem]
 obtain⟨k50,k51⟩:=k5;have k50a:((w.alloc (.cells #[.int .i64 d,.int .i64 y] 64)).alloc (.cells #[.slice ak K.length ck] 60)).cell? ⟨w.heap.size,0,none⟩=some (.int .i64 d):=hW1▸k50;have k51a:((w.alloc (.cells #[.int .i64 d,.int .i64 y] 64)).alloc (.cells #[.slice ak K.length ck] 60)).cell? ⟨w.heap.size,1,none⟩=some (.int .i64 y):=hW1▸k51;go_enter func65,ntmps65;go_wp2_with fail;rw[←hW1];refine(HD.out _ (h.call hB1)).mono ?_;rintro r w2 ⟨v,rfl,hO,hb2⟩;have hB2:=aw hB1 hb2;obtain⟨a9,c9,rfl,hX⟩:=hO.num;have m50:=(hb2.cell (p:=⟨w.heap.size,0,none⟩) (by show w.heap.size<_;omega)).trans k50;have m7:=(hb2.cell (p:=⟨w.heap.size+1,0,none⟩) (by show w.heap.size+1<_;omega)).trans k7;obtain⟨w3,hw3⟩:∃w3,w3=w2.alloc (.cells #[.slice a9 X.length c9] 38):=⟨_,rfl⟩;have hb3:ai w2 w3:=by rw[hw3];exact ay (Below.refl _ _) _
 have hB3:=aw hB2 hb3;have hz3:w3.heap.size=w2.heap.size+1:=by rw[hw3];simp
 have hz2:=hb2.size;have n9:w3.cell? ⟨w2.heap.size,0,none⟩=some (.slice a9 X.length c9):=by rw[hw3];simp[go_sem]
 have n50:=(hb3.cell (p:=⟨w.heap.size,0,none⟩) (by show w.heap.size<_;omega)).trans m50;have n7:=(hb3.cell (p:=⟨w.heap.size+1,0,none⟩) (by show w.heap.size+1<_;omega)).trans m7;have hX3:=hX.call hb3;have hK3:=hK.call hB3;have hU3:=hU.call hB3
 have HCF:Hid (ah 126 #[.slice au U.length cu,.func (.func 127) #[] #[.pointer (some ⟨w2.heap.size,0,none⟩),.pointer (some ⟨w.heap.size+1,0,none⟩),.pointer (some ⟨w.heap.size,0,none⟩)]] w3 (aA (.bool T) w3)):=HTe.out ▸
  Ey au cu U (kt X K (d:Int)) _ _ _ w3 hU3 hUl (fun u W hW=>GA X K (d:Int) u w2.heap.size (w.heap.size+1) w.heap.size a9 ak c9 ck W ((hW.cell (p:=⟨w2.heap.size,0,none⟩) (by show w2.heap.size<_;omega)).trans n9) ((hW.cell (p:=⟨w.heap.size+1,0,none⟩) (by show w.heap.size+1<_;omega)).trans n7) ((hW.cell (p:=⟨w.heap.size,0,none⟩) (by show w.heap.size<_;omega)).trans n50) (hX3.call hW) (hK3.call hW) hol hKl)
 clear hX hO HD k50a k51a;go_wp2_with fail;rw[←hw3];refine HCF.out.mono ?_;rintro r w4 ⟨rfl,hb4⟩;go_wp2;go_ret;exact⟨rfl,aw hB3 hb4⟩
theorem LF(a:Option Addr)(c:Nat)(w:World) :
  ah 66 #[.slice a 0 c] w fun e w'=>e=.returned (.tuple #[])∧w'=w:=by
 go_enter func66,ntmps66;go_wp2;go_loopw [2,3] (fun v2 v3 wr=>v2=.int .i64 0∧v3=.int .i64 (-1)∧wr=w) (fun _ _ _=>0)
 case atStart=>exact⟨rfl,by go_num,rfl⟩
 case round =>
  obtain⟨rfl,rfl,rfl⟩:=hrel;go_wp2;go_end0;exact⟨rfl,rfl⟩
theorem sJ{w W:World}{g:Nat}(h:w.grownBy W (some g))(i:Nat)(v:Value):w.grownBy (W.setCell ⟨g,i,none⟩ v) (some g):=⟨h.os,h.tape,h.output,by simpa using h.size,fun k hk hne=>(Below.heap_setCell W ⟨g,i,none⟩ v k (fun e=>hne (by rw[e]))).trans (h.block k hk hne)⟩
theorem FY{w W:World}{row:Option Nat}(h:w.grownBy W row):w.grownBy W.drew row:=⟨h.os,h.tape,h.output,h.size,h.block⟩
def gS(S:List (Int × Int))(k:Nat):Int × Int:=S[k]?.getD (0,0)
def rk(n i k:Nat):Nat:=if k<i∨n-i≤k then n-1-k else k
structure k8 (g:Nat) (S:List (Int × Int)) (i:Nat) (w:World):Prop where
 lt:g<w.heap.size
 at_:∀k,k<S.length→w.cell? ⟨g,k*2,none⟩=some (.int .i64 (gS S (rk S.length i k)).1)∧w.cell? ⟨g,k*2+1,none⟩=some (.int .i64 (gS S (rk S.length i k)).2)
 free:∀j,w.frozen? ⟨g,j,none⟩=false
theorem C0(w:World)(g p1 p2 p3 p4:Nat)(v1 v2 v3 v4:Value){c1 c2 c3 c4:Value}(h1:w.cell? ⟨g,p1,none⟩=some c1)(h2:w.cell? ⟨g,p2,none⟩=some c2)(h3:w.cell? ⟨g,p3,none⟩=some c3)(h4:w.cell? ⟨g,p4,none⟩=some c4)(q:Nat)(n1:p2≠p1)(n2:p3≠p1)(n3:p4≠p1)(n4:p3≠p2)(n5:p4≠p2)(n6:p4≠p3) :
  ((((w.setCell ⟨g,p1,none⟩ v1).setCell ⟨g,p2,none⟩ v2).setCell ⟨g,p3,none⟩ v3).setCell ⟨g,p4,none⟩ v4).cell? ⟨g,q,none⟩=if q=p1 then some v1 else if q=p2 then some v2 else if q=p3 then some v3 else if q=p4 then some v4 else w.cell? ⟨g,q,none⟩:=by
 have ne:∀(x:World) (a b:Nat) (v:Value),b≠a→(x.setCell ⟨g,a,none⟩ v).cell? ⟨g,b,none⟩=x.cell? ⟨g,b,none⟩:=fun x a b v hh=>World.cell?_setCell_other x ⟨g,a,none⟩ ⟨g,b,none⟩ v (fun e=>hh (by injection e with _ e;exact e.symm))
 by_cases e1:q=p1
 ·subst e1;rw[if_pos rfl,ne _ _ _ _ (Ne.symm n3),ne _ _ _ _ (Ne.symm n2),ne _ _ _ _ (Ne.symm n1)];exact World.cell?_setCell_same w _ _ h1
 rw[if_neg e1];by_cases e2:q=p2
 ·subst e2;rw[if_pos rfl,ne _ _ _ _ (Ne.symm n5),ne _ _ _ _ (Ne.symm n4)];exact World.cell?_setCell_same _ _ _ ((ne _ _ _ _ n1).trans h2)
 rw[if_neg e2];by_cases e3:q=p3
 ·subst e3;rw[if_pos rfl,ne _ _ _ _ (Ne.symm n6)];exact World.cell?_setCell_same _ _ _ ((ne _ _ _ _ n4).trans ((ne _ _ _ _ n2).trans h3))
 rw[if_neg e3];by_cases e4:q=p4
 ·subst e4;rw[if_pos rfl];exact World.cell?_setCell_same _ _ _ ((ne _ _ _ _ n6).trans ((ne _ _ _ _ n5).trans ((ne _ _ _ _ n3).trans h4)))
 rw[if_neg e4,ne _ _ _ _ e4,ne _ _ _ _ e3,ne _ _ _ _ e2,ne _ _ _ _ e1]
theorem k8.swap{g:Nat}{S:List (Int × Int)}{i j:Nat}{w:World}(h:k8 g S i w)(hlt:i+i+1<S.length)(hj:j=S.length-1-i) :
  k8 g S (i+1) ((((w.setCell ⟨g,i*2,none⟩ (.int .i64 (gS S (rk S.length i j)).1)).setCell ⟨g,i*2+1,none⟩ (.int .i64 (gS S (rk S.length i j)).2)).setCell ⟨g,j*2,none⟩ (.int .i64 (gS S (rk S.length i i)).1)).setCell ⟨g,j*2+1,none⟩ (.int .i64 (gS S (rk S.length i i)).2)).drew:=by
 obtain⟨a1,a2⟩:=h.at_ i (by omega);obtain⟨b1,b2⟩:=h.at_ j (by omega);refine⟨by simpa using h.lt,fun k hk=>?_,fun q=>by simpa[World.frozen?_setCell]using h.free q⟩;show World.cell? (World.setCell _ _ _) _=_∧World.cell? (World.setCell _ _ _) _=_;rw[C0 w g _ _ _ _ _ _ _ _ a1 a2 b1 b2 (k*2) (by omega) (by omega) (by omega) (by omega) (by omega) (by omega),C0 w g _ _ _ _ _ _ _ _ a1 a2 b1 b2 (k*2+1) (by omega) (by omega) (by omega) (by omega) (by omega) (by omega)];obtain⟨k1,k2⟩:=h.at_ k hk;have r1:rk S.length i i=i:=by unfold rk;rw[if_neg (by omega)]
 have r2:rk S.length i j=j:=by unfold rk;rw[if_neg (by omega)]
 by_cases e1:k=i
 ·subst e1;have r3:rk S.length (k+1) k=j:=by unfold rk;rw[if_pos (Or.inl (by omega))];omega
  rw[if_pos rfl,if_neg (by omega),if_pos rfl,r2,r3];exact⟨rfl,rfl⟩
 ·by_cases e2:k=j
  ·have r3:rk S.length (i+1) k=i:=by unfold rk;rw[if_pos (Or.inr (by omega))];omega
   subst e2;rw[if_neg (by omega),if_neg (by omega),if_pos rfl,if_neg (by omega),if_neg (by omega),if_neg (by omega),if_pos rfl,r1,r3];exact⟨rfl,rfl⟩
  ·have r3:rk S.length (i+1) k=rk S.length i k:=by
    unfold rk;by_cases c1:k<i∨S.length-i≤k
    ·rw[if_pos c1,if_pos (by omega)]
    ·rw[if_neg c1,if_neg (by omega)]
   rw[if_neg (by omega),if_neg (by omega),if_neg (by omega),if_neg (by omega),if_neg (by omega),if_neg (by omega),if_neg (by omega),if_neg (by omega),r3]
   exact⟨k1,k2⟩
theorem k8.done{g:Nat}{S:List (Int × Int)}{i:Nat}{w:World}(h:k8 g S i w)(hge:S.length≤i+i+1):dr w (some ⟨g,0,none⟩) S.reverse:=fun k hk=>by
 rw[List.length_reverse]at hk;obtain⟨k1,k2⟩:=h.at_ k hk;have r3:rk S.length i k=S.length-1-k:=by
  unfold rk;by_cases c1:k<i∨S.length-i≤k
  ·rw[if_pos c1]
  ·rw[if_neg c1];omega
 have e:gS S (rk S.length i k)=S.reverse[k]'(by simpa using hk):=by
  rw[r3,List.getElem_reverse];unfold gS;rw[List.getElem?_eq_getElem (by omega)];rfl
 rw[e]at k1 k2;exact⟨g,rfl,h.lt,k1,k2⟩
theorem LD(g c:Nat)(S:List (Int × Int))(w:World)(hS:k8 g S 0 w)(hl:S.length≤5000) :
  ah 66 #[.slice (some ⟨g,0,none⟩) S.length c] w fun e w'=>e=.returned (.tuple #[])∧dr w' (some ⟨g,0,none⟩) S.reverse∧w.grownBy w' (some g):=by
 go_enter func66,ntmps66;go_wp2;go_loopw [2,3] (fun v2 v3 wr=>∃i:Nat,v2=.int .i64 (i:Int)∧v3=.int .i64 ((S.length:Int)-1-(i:Int))∧i≤S.length∧k8 g S i wr∧w.grownBy wr (some g)) (fun v2 _ _=>S.length-(intOf v2).toNat)
 case atStart=>exact⟨0,rfl,by go_num,Nat.zero_le _,hS,⟨rfl,rfl,rfl,Nat.le_refl _,fun _ _ _=>rfl⟩⟩
 case round =>
  obtain⟨i,rfl,rfl,hi,hR,hBr⟩:=hrel;by_cases hlt:i+i+1<S.length
  ·obtain⟨j,hj⟩:∃j:Nat,j=S.length-1-i:=⟨_,rfl⟩;have hji:(S.length:Int)-1-(i:Int)=(j:Int):=by omega
   rw[hji];have hij:i<j:=by omega
   have hjl:j<S.length:=by omega
   have HJ:=aj hj;obtain⟨a1,a2⟩:=hR.at_ i (by omega);obtain⟨b1,b2⟩:=hR.at_ j (by omega);have fr:=hR.free;have HR:Hid (∀u1 u2 x1 x2:Int,u1=(gS S (rk S.length i i)).1→u2=(gS S (rk S.length i i)).2→x1=(gS S (rk S.length i j)).1→x2=(gS S (rk S.length i j)).2→k8 g S (i+1) ((((wr.setCell ⟨g,i*2,none⟩ (.int .i64 x1)).setCell ⟨g,i*2+1,none⟩ (.int .i64 x2)).setCell ⟨g,j*2,none⟩ (.int .i64 u1)).setCell ⟨g,j*2+1,none⟩ (.int .i64 u2)).drew):=fun u1 u2 x1 x2 e1 e2 e3 e4=>by
    rw[e1,e2,e3,e4];exact hR.swap hlt hj
   obtain⟨u1,hu1⟩:∃u,u=(gS S (rk S.length i i)).1:=⟨_,rfl⟩;obtain⟨u2,hu2⟩:∃u,u=(gS S (rk S.length i i)).2:=⟨_,rfl⟩;obtain⟨x1,hx1⟩:∃u,u=(gS S (rk S.length i j)).1:=⟨_,rfl⟩;obtain⟨x2,hx2⟩:∃u,u=(gS S (rk S.length i j)).2:=⟨_,rfl⟩;have HR2:Hid (k8 g S (i+1) ((((wr.setCell ⟨g,i*2,none⟩ (.int .i64 x1)).setCell ⟨g,i*2+1,none⟩ (.int .i64 x2)).setCell ⟨g,j*2,none⟩ (.int .i64 u1)).setCell ⟨g,j*2+1,none⟩ (.int .i64 u2)).drew):=HR.out u1 u2 x1 x2 hu1 hu2 hx1 hx2;rw[←hu1]at a1;rw[←hu2]at a2;rw[←hx1]at b1;rw[←hx2]at b2;clear hu1 hu2 hx1 hx2 HR;have f1:=fr (i*2);have f2:=fr (i*2+1);have f3:=fr (j*2);have f4:=fr (j*2+1);clear hj hji fr hR;go_wp2;go_region;go_wp2;refine⟨⟨i+1,by go_num,?_,by omega,HR2.out,?_⟩,by simp[intOf];omega⟩
   ·have:=HJ.out;rw[show(j:Int)-1=(S.length:Int)-1-((i+1:Nat):Int) by omega]
   ·exact FY (sJ (sJ (sJ (sJ hBr _ _) _ _) _ _) _ _)
  ·have HD:Hid (dr wr (some ⟨g,0,none⟩) S.reverse):=hR.done (by omega);clear hR;go_wp2;go_end0;exact⟨rfl,HD.out,hBr⟩
open Go.Shelf
attribute [local go_sem] Oper.semAt_some
abbrev oE(Pp:Int × Int→Prop):Type:={x:Int × Int × Int // Pp x.2}
def qq{Pp:Int × Int→Prop}(x:oE Pp):Array Value:=#[.int .i64 x.1.1,.agg #[.int .i64 x.1.2.1,.int .i64 x.1.2.2]]
def bk(S:List (Int × Int)):Nat→List (Int × Int × Int)
 |0=>[]
 |k+1=>((k:Int),gS S k)::bk S k
def lJ(bl:Nat)(a:Option Addr)(A B:World):Prop:=A.heap.size≤B.heap.size∧B.heap[bl]?=A.heap[bl]?∧∀p,a=some p→B.heap[p.block]?=A.heap[p.block]?
theorem vG{bl:Nat}{a:Option Addr}{A B C:World}(h:lJ bl a A B)(k:lJ bl a B C):lJ bl a A C:=⟨Nat.le_trans h.1 k.1,k.2.1.trans h.2.1,fun p hp=>(k.2.2 p hp).trans (h.2.2 p hp)⟩
theorem G5{bl:Nat}{a:Option Addr}{w:World}(hb:bl<w.heap.size)(ha:∀p,a=some p→p.block<w.heap.size)(W:World)(l:Nat)(o':Obj)(hl:w.heap.size≤l):lJ bl a W (W.putObj l o') :=
 ⟨by simp,World.putObj_heap_other (fun e=>by omega),fun p hp=>World.putObj_heap_other (fun e=>by have:=ha p hp;omega)⟩
theorem dr.kpB{bl:Nat}{a:Option Addr}{A B:World}{S:List (Int × Int)}(h:dr A a S)(k:lJ bl a A B):dr B a S:=fun j hj=>by
 obtain⟨g,ha,hg,h1,h2⟩:=h j hj;exact⟨g,ha,Nat.lt_of_lt_of_le hg k.1,(World.cell?_of_block (w:=A) (w':=B) (a:=⟨g,j*2,none⟩) (show B.heap[g]?=A.heap[g]? from k.2.2 ⟨g,0,none⟩ ha)).trans h1,(World.cell?_of_block (w:=A) (w':=B) (a:=⟨g,j*2+1,none⟩) (show B.heap[g]?=A.heap[g]? from k.2.2 ⟨g,0,none⟩ ha)).trans h2⟩
theorem D9(n:Nat)(a:Option Addr)(len cap:Nat)(w:World) :
  CallsIn Fence.wide n prog 64 #[.slice a len cap] w fun e w'=>e=.returned (.func (.func 124) #[] #[.pointer (some ⟨w.heap.size,0,none⟩)])∧w'=w.alloc (.cells #[.slice a len cap] 60):=by
 refine callsIn_of_wp func64 rfl trivial ?_ rfl;simp only[ntmps64,List.size_toArray,List.length_cons,List.length_nil,Nat.reduceAdd,Nat.reduceSub,Array.replicate_succ,Array.replicate_zero,List.push_toArray,List.append_toArray,List.nil_append,List.cons_append];gi_wp2;go_ret;exact⟨rfl,rfl⟩
theorem Ee{Pp:Int × Int→Prop}(n:Nat)(hn:1≤n)(l bl:Nat)(a:Option Addr)(cap:Nat)(S:List (Int × Int))(hl:S.length≤5000)(hS:∀s∈S,Pp s)(J Jx:List (oE Pp)→World→Prop)
  (hY:∀pre x W,J pre W→pre.length<S.length→YieldAt Fence.wide (n-1) prog l (qq x) W fun e W' =>
   (e=.returned (.bool true)∧J (pre++[x]) W'∧lJ bl a W W')∨(e=.returned (.bool false)∧Jx (pre++[x]) W'))
  (W:World) (hbl:W.cell? ⟨bl,0,none⟩=some (.slice a S.length cap)) (hA:dr W a S) (h0:J [] W) :
  CallsIn Fence.wide n prog 124 #[.func (.yield l) #[] #[],.pointer (some ⟨bl,0,none⟩)] W fun e W'=>(∃v,e=.returned v) ∧
   ((∃ys:List (oE Pp),ys.map (·.1)=bk S S.length∧J ys W')∨(∃pre:List (oE Pp),pre.map (·.1) <+: bk S S.length∧Jx pre W')):=by
 refine callsIn_of_wp func124 rfl trivial ?_ rfl;simp only[ntmps124,List.size_toArray,List.length_cons,List.length_nil,Nat.reduceAdd,Nat.reduceSub,Array.replicate_succ,Array.replicate_zero,List.push_toArray,List.append_toArray,List.nil_append,List.cons_append];gi_wp2;gi_loopw [3] (fun v3 wr=>∃(m:Nat) (pre:List (oE Pp)),v3=.int .i64 ((m:Int)-1)∧m≤S.length∧J pre wr∧wr.cell? ⟨bl,0,none⟩=some (.slice a S.length cap)∧dr wr a S∧pre.length+m=S.length∧Hid (pre.map (·.1)++bk S m=bk S S.length)) (fun v3 _=>(intOf v3+1).toNat)
 case atStart=>exact⟨S.length,[],by go_num,Nat.le_refl _,h0,hbl,hA,by simp,rfl⟩
 case round =>
  clear hbl hA h0;obtain⟨m,pre,rfl,hm,hJr,hcl,hAr,hpl,HP⟩:=hrel;cases m with
  |zero =>
   have HE:=aj (by rw[←HP.out];exact(List.append_nil _).symm:pre.map (·.1)=bk S S.length);clear HP;gi_wp2;go_end0;exact⟨⟨_,rfl⟩,.inl ⟨pre,HE.out,hJr⟩⟩
  |succ m =>
   have hml:m<S.length:=by omega
   obtain⟨g,rfl,hg,d1,d2⟩:=hAr m hml;obtain⟨u,v,huv⟩:∃u v,S[m]=(u,v):=⟨_,_,rfl⟩;have hPp:Pp (u,v):=huv▸hS _ (List.getElem_mem hml);rw[huv]at d1 d2;simp only at d1 d2;obtain⟨x,hx⟩:∃x:oE Pp,x.1=((m:Int),u,v):=⟨⟨((m:Int),u,v),hPp⟩,rfl⟩;have HP2:Hid ((pre++[x]).map (·.1)++bk S m=bk S S.length):=by
    show(pre++[x]).map (·.1)++bk S m=bk S S.length;rw[←HP.out,List.map_append,List.append_assoc];show _++(x.1::bk S m)=_++(((m:Int),gS S m)::bk S m);rw[hx,show gS S m=(u,v) by unfold gS;rw[List.getElem?_eq_getElem hml,huv];rfl]
   have HPX:Hid ((pre++[x]).map (·.1) <+: bk S S.length):=⟨_,HP2.out⟩;clear HP;obtain⟨fn,tmps,assign,body,hy,hR⟩:=hY pre x wr hJr (by omega);have he:qq x=#[.int .i64 m,.agg #[.int .i64 u,.int .i64 v]]:=by unfold qq;rw[hx]
   rw[he]at hy;rw[show((m+1:Nat):Int)-1=(m:Int) by omega];clear huv hPp he hx;gi_wp2;refine hR.mono ?_;rintro e W3 (⟨rfl,hJ3,hk3⟩|⟨rfl,hJx3⟩)
   ·have hcl3:W3.cell? ⟨bl,0,none⟩=some (.slice (some ⟨g,0,none⟩) S.length cap):=(World.cell?_of_block (w:=wr) (a:=⟨bl,0,none⟩) hk3.2.1).trans hcl;have hA3:=hAr.kpB hk3;clear hy hR hY hk3 hcl hAr hJr d1 d2;gi_wp2;go_roundw
    case rel=>exact⟨m,_,by go_num,by omega,hJ3,hcl3,hA3,by simp;omega,HP2.out⟩
    case measure=>simp[intOf]
   ·gi_wp2;refine bodyPost_ret (results_none rfl _ _ _) rfl ?_;exact⟨⟨_,rfl⟩,.inr ⟨_,HPX.out,hJx3⟩⟩
theorem Ef{Pp:Int × Int→Prop}(n:Nat)(hn:1≤n)(bl:Nat)(a:Option Addr)(cap:Nat)(S:List (Int × Int))(hl:S.length≤5000)(hS:∀s∈S,Pp s)(w:World)(hbl:bl<w.heap.size)
  (hcl:w.cell? ⟨bl,0,none⟩=some (.slice a S.length cap)) (hA:dr w a S) :
  SeqStopsK Fence.wide n prog 124 #[.pointer (some ⟨bl,0,none⟩)] (qq (Pp:=Pp)) (lJ bl a) (fun ys=>ys.map (·.1)=bk S S.length) (fun pre=>pre.map (·.1) <+: bk S S.length) S.length w:=fun l J Jx W hW _ _ hY h0 =>
 Ee n hn l bl a cap S hl hS J Jx hY W ((hW.cell (p:=⟨bl,0,none⟩) hbl).trans hcl) (hA.call hW) h0
end Go.Proofs.YtdojfommmpnbgaaGreatDoor
