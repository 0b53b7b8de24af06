import Derived.Test.YtdojfommmpnbgaaGreatDoorKBW
set_option maxHeartbeats 2000000
set_option maxRecDepth 100000
namespace Go.Proofs.YtdojfommmpnbgaaGreatDoor
open Go.RowKit Go.Shelf Go.Proofs.Tryz
theorem EB(v:Value)(X:af)(w:World)(hS:Sl w v X)(hl:X.length≤400000) :
  ah 89 #[v] w fun e w'=>∃g n cp,e=.returned (.slice (some ⟨g,0,none⟩) n cp)∧aG w' w.heap.size g n cp X∧ai w w':=by
 have hN:=od w w.heap.size (Nat.le_refl _);have hbA:=ay (Below.refl w.heap.size w) (.cells #[] 9);have hSA:=hS.call hbA;have hl2:([]:af).length+X.length≤400000:=by simpa using hl
 clear hS;go_enter func89,ntmps89;go_wp2_with (at_builtin;refine jc _ rfl _ _ rfl rfl rfl hN hSA hl2 (by simp) ?_)
 intro g c w1 hO hB;have hB1:=(hbA.trans hB);go_wp2;go_ret;exact⟨g,_,c,rfl,hO,hB1⟩
theorem mV(w:World)(X:af)(hl:X.length≤1000):aG (w.alloc (.cells (X.map Value.string).toArray 9)) w.heap.size w.heap.size X.length X.length X:=by
 refine⟨by simp,.inr ⟨w.heap.size,_,_,rfl,Nat.le_refl _,heap_alloc_new w _,Nat.le_refl _,by unfold maxLen;omega,?_,?_⟩⟩
 ·simp
 ·simp[List.take_of_length_le]
section
variable (g o c N p q:Nat) (w:World) (F:af)
theorem Gh(hX:Tx w g (o+p) F)(hFl:F.length=q-p)(hl:F.length≤400000)(hpq:p<q)(hqc:q≤c)(hc:c≤9223372036854775807)
  (HI:Hid (∀W,ai w W→ah 16 #[.slice (some ⟨g,o,none⟩) N c,.int .i64 p] W (aA (.int .i64 q) W))) :
  ah 94 #[.slice (some ⟨g,o,none⟩) N c,.int .i64 p] w fun e w'=>∃g' n' cp,e=.returned (.slice (some ⟨g',0,none⟩) n' cp)∧aG w' w.heap.size g' n' cp F∧ai w w':=by
 have e1:¬(q:Int)<0:=by omega
 have e2:(0:Int)≤(p:Int):=by omega
 have e3:(p:Int)≤(q:Int):=by omega
 have e4:(q:Int)≤(c:Int):=by omega
 have e5:p<c:=by omega
 go_enter func94,ntmps94;go_wp2_with fail;refine(HI.out _ (Below.refl _ _)).mono ?_;rintro e w1 ⟨rfl,hb1⟩;have hS:=(hX.call hb1).sl (c:=c-p) (by omega);rw[hFl]at hS;go_wp2_with fail;refine(EB _ F _ hS hl).mono ?_;rintro e w2 ⟨g2,n2,c2,rfl,hO,hb2⟩;have hO2:=dW hO hb1.size;have hB2:=aw hb1 hb2;go_wp2;go_ret;exact⟨g2,n2,c2,rfl,hO2,hB2⟩
variable (x h:ByteArray) (b:Bool) (hN:N≤1000000)
include hN
omit hN in
theorem J7(hx:w.cell? ⟨g,o+p,none⟩=some (.string x))(hp:p<N)(b40:(x.toList==[40])=false) :
  ah 57 #[.slice (some ⟨g,o,none⟩) N c,.int .i64 p,.bool b] w fun e w'=>∃g' n' cp,e=.returned (.slice (some ⟨g',0,none⟩) n' cp)∧aG w' w.heap.size g' n' cp [x]∧ai w w':=by
 have hp1:(p:Int)<(N:Int):=by omega
 have hN:aG (w.alloc (.cells #[.string x] 9)) w.heap.size w.heap.size 1 1 [x]:=mV w [x] (by simp);have hbA:=ay (Below.refl w.heap.size w) (.cells #[.string x] 9);go_enter func57,ntmps57;go_wp2;go_ret;exact⟨_,_,_,rfl,hN,hbA⟩
variable (hx:w.cell? ⟨g,o+p,none⟩=some (.string al)) (hh:w.cell? ⟨g,o+(p+1),none⟩=some (.string h)) (hp:p+1 < N)
include hx hh hp
theorem J2(b_fn:(h.toList==[102,110])=true)(HC:Hid (ah 94 #[.slice (some ⟨g,o,none⟩) N c,.int .i64 p] w fun e w'=>∃g' n' cp,e=.returned (.slice (some ⟨g',0,none⟩) n' cp)∧aG w' w.heap.size g' n' cp F∧ai w w')) :
  ah 57 #[.slice (some ⟨g,o,none⟩) N c,.int .i64 p,.bool b] w fun e w'=>∃g' n' cp,e=.returned (.slice (some ⟨g',0,none⟩) n' cp)∧aG w' w.heap.size g' n' cp F∧ai w w':=by
 have b40:(al.toList==[40])=true:=iJ;have hp1:(p:Int)<(N:Int):=by omega
 have hp2:(p:Int)+1<(N:Int):=by omega
 have e1:((p:Int)+1).toNat=p+1:=by omega
 have e2:(0:Int)≤(p:Int)+1:=by omega
 go_enter func57,ntmps57;go_wp2_with fail;refine HC.out.mono ?_;rintro e w2 ⟨g2,n2,c2,rfl,hO,hb2⟩;go_wp2;go_ret;exact⟨g2,n2,c2,rfl,hO,hb2⟩
theorem J8(b_fn:(h.toList==[102,110])=false)(b_bk:(h.toList==[98,97,99,107])=false)(hl:(h.toList==[108,101,97,118,101])=true∨((h.toList==[108,101,97,118,101])=false∧(h.toList==[110,101,120,116])=true))(HC:Hid (ah 94 #[.slice (some ⟨g,o,none⟩) N c,.int .i64 p] w fun e w'=>∃g' n' cp,e=.returned (.slice (some ⟨g',0,none⟩) n' cp)∧aG w' w.heap.size g' n' cp F∧ai w w')) :
  ah 57 #[.slice (some ⟨g,o,none⟩) N c,.int .i64 p,.bool true] w fun e w'=>∃g' n' cp,e=.returned (.slice (some ⟨g',0,none⟩) n' cp)∧aG w' w.heap.size g' n' cp F∧ai w w':=by
 have b40:(al.toList==[40])=true:=iJ;have hp1:(p:Int)<(N:Int):=by omega
 have hp2:(p:Int)+1<(N:Int):=by omega
 have e1:((p:Int)+1).toNat=p+1:=by omega
 have e2:(0:Int)≤(p:Int)+1:=by omega
 rcases hl with b_lv|⟨b_lv,b_nx⟩
 all_goals go_enter func57,ntmps57
 all_goals go_wp2_with fail
 all_goals refine HC.out.mono ?_
 all_goals rintro e w2 ⟨g2,n2,c2,rfl,hO,hb2⟩
 all_goals go_wp2
 all_goals go_ret
 all_goals exact⟨g2,n2,c2,rfl,hO,hb2⟩
theorem J5(b_fn:(h.toList==[102,110])=false)(b_bk:(h.toList==[98,97,99,107])=false)(b_lv:(h.toList==[108,101,97,118,101])=true) :
  ah 57 #[.slice (some ⟨g,o,none⟩) N c,.int .i64 p,.bool false] w fun e w'=>∃g' n' cp,e=.returned (.slice (some ⟨g',0,none⟩) n' cp)∧aG w' w.heap.size g' n' cp [al,bm,al,cW,cl,aq,aq]∧ai w w':=by
 have b40:(al.toList==[40])=true:=iJ;have hp1:(p:Int)<(N:Int):=by omega
 have hp2:(p:Int)+1<(N:Int):=by omega
 have e1:((p:Int)+1).toNat=p+1:=by omega
 have e2:(0:Int)≤(p:Int)+1:=by omega
 have hNw:aG (w.alloc (.cells #[.string ⟨#[40]⟩,.string ⟨#[98,97,99,107]⟩,.string ⟨#[40]⟩,.string ⟨#[116,104,105,110,103]⟩,.string ⟨#[50]⟩,.string ⟨#[41]⟩,.string ⟨#[41]⟩] 9)) w.heap.size w.heap.size 7 7 [al,bm,al,cW,cl,aq,aq]:=mV w _ (by simp);have hbA:=ay (Below.refl w.heap.size w) (.cells #[.string ⟨#[40]⟩,.string ⟨#[98,97,99,107]⟩,.string ⟨#[40]⟩,.string ⟨#[116,104,105,110,103]⟩,.string ⟨#[50]⟩,.string ⟨#[41]⟩,.string ⟨#[41]⟩] 9);go_enter func57,ntmps57;go_wp2;go_ret;exact⟨_,_,_,rfl,hNw,hbA⟩
theorem J6(b_fn:(h.toList==[102,110])=false)(b_bk:(h.toList==[98,97,99,107])=false)(b_lv:(h.toList==[108,101,97,118,101])=false)(b_nx:(h.toList==[110,101,120,116])=true) :
  ah 57 #[.slice (some ⟨g,o,none⟩) N c,.int .i64 p,.bool false] w fun e w'=>∃g' n' cp,e=.returned (.slice (some ⟨g',0,none⟩) n' cp)∧aG w' w.heap.size g' n' cp [al,bm,al,cW,eR,aq,aq]∧ai w w':=by
 have b40:(al.toList==[40])=true:=iJ;have hp1:(p:Int)<(N:Int):=by omega
 have hp2:(p:Int)+1<(N:Int):=by omega
 have e1:((p:Int)+1).toNat=p+1:=by omega
 have e2:(0:Int)≤(p:Int)+1:=by omega
 have hNw:aG (w.alloc (.cells #[.string ⟨#[40]⟩,.string ⟨#[98,97,99,107]⟩,.string ⟨#[40]⟩,.string ⟨#[116,104,105,110,103]⟩,.string ⟨#[51]⟩,.string ⟨#[41]⟩,.string ⟨#[41]⟩] 9)) w.heap.size w.heap.size 7 7 [al,bm,al,cW,eR,aq,aq]:=mV w _ (by simp);have hbA:=ay (Below.refl w.heap.size w) (.cells #[.string ⟨#[40]⟩,.string ⟨#[98,97,99,107]⟩,.string ⟨#[40]⟩,.string ⟨#[116,104,105,110,103]⟩,.string ⟨#[51]⟩,.string ⟨#[41]⟩,.string ⟨#[41]⟩] 9);go_enter func57,ntmps57;go_wp2;go_ret;exact⟨_,_,_,rfl,hNw,hbA⟩
theorem J1(hl:F.length≤300000)(b_fn:(h.toList==[102,110])=false)(b_bk:(h.toList==[98,97,99,107])=true)(HC:Hid (∀W,ai w W→ah 94 #[.slice (some ⟨g,o,none⟩) N c,.int .i64 ((p:Int)+2)] W fun e w'=>∃g' n' cp,e=.returned (.slice (some ⟨g',0,none⟩) n' cp)∧aG w' W.heap.size g' n' cp F∧ai W w')) :
  ah 57 #[.slice (some ⟨g,o,none⟩) N c,.int .i64 p,.bool b] w fun e w'=>∃g' n' cp,e=.returned (.slice (some ⟨g',0,none⟩) n' cp)∧aG w' w.heap.size g' n' cp ([al,bm,al,cW,bV]++F++[aq,aq])∧ai w w':=by
 have b40:(al.toList==[40])=true:=iJ;have hp1:(p:Int)<(N:Int):=by omega
 have hp2:(p:Int)+1<(N:Int):=by omega
 have e1:((p:Int)+1).toNat=p+1:=by omega
 have e2:(0:Int)≤(p:Int)+1:=by omega
 have hNw:aG (w.alloc (.cells #[.string ⟨#[40]⟩,.string ⟨#[98,97,99,107]⟩,.string ⟨#[40]⟩,.string ⟨#[116,104,105,110,103]⟩,.string ⟨#[49]⟩] 9)) w.heap.size w.heap.size 5 5 [al,bm,al,cW,bV]:=mV w _ (by simp);have hbA:=ay (Below.refl w.heap.size w) (.cells #[.string ⟨#[40]⟩,.string ⟨#[98,97,99,107]⟩,.string ⟨#[40]⟩,.string ⟨#[116,104,105,110,103]⟩,.string ⟨#[49]⟩] 9);have hw2:IntKind.i64.wrap ((p:Int)+2)=(p:Int)+2:=by rw[IntKind.wrap_i64];omega
 go_enter func57,ntmps57;go_wp2_with fail;refine(HC.out _ hbA).mono ?_;rintro e w2 ⟨g2,n2,c2,rfl,hO,hb2⟩;have hS2:=aG.sl hO;have hN2:=bO hNw hb2;have hB2:=aw hbA hb2;have hl1:([al,bm,al,cW,bV]:af).length+F.length≤400000:=by simp;omega
 have hz2:=hB2.size;clear hbA hb2 hO hNw;go_wp2_with (at_builtin;refine jc _ rfl _ _ rfl rfl rfl hN2 hS2 hl1 hz2 ?_)
 intro g3 c3 w3 hO3 hb3;have hB3:=hB2.trans hb3;have hbC:=ay (Below.refl w3.heap.size w3) (.cells #[.string ⟨#[41]⟩,.string ⟨#[41]⟩] 9);have hS4:=dM w3 [aq,aq] 9;have hO4:=bO hO3 hbC;have hB4:=aw hB3 hbC;have hl2:([al,bm,al,cW,bV]++F).length+[aq,aq].length≤400000:=by simp;omega
 have hz4:=hB4.size;clear hB3 hb3 hO3 hbC hS2 hN2 hB2 hz2 hl1;go_wp2_with (at_builtin;refine jc _ rfl _ _ rfl rfl rfl hO4 hS4 hl2 hz4 ?_)
 intro g5 c5 w5 hO5 hb5;have hB5:=hB4.trans hb5;have HO5:=aj hO5;clear hO5 hb5 hB4 hO4 hS4;go_wp2;go_ret;exact⟨_,_,_,rfl,HO5.out,hB5⟩
end
end Go.Proofs.YtdojfommmpnbgaaGreatDoor
namespace Go.Proofs.YtdojfommmpnbgaaGreatDoor
open Go.RowKit Go.Shelf
def uc(n:Nat):Prop:=∀(b:Bool) (A F B G:af) (g o c:Nat) (W:World),MO n b F G→cS F→Tx W g o (A++(F++B))→(A++(F++B)).length≤c→c≤9223372036854775807→(∀s∈A++(F++B),Gs s)→(A++(F++B)).length≤200000→G.length≤300000 →
 ah 57 #[.slice (some ⟨g,o,none⟩) (A++(F++B)).length c,.int .i64 (A.length:Int),.bool b] W fun e w'=>∃g' n' cp,e=.returned (.slice (some ⟨g',0,none⟩) n' cp)∧aG w' W.heap.size g' n' cp G∧ai W w'
section
variable {Y:af} {g o c N:Nat} {w:World} (hX:Tx w g o Y) (hN:Y.length=N) (hG:∀ s∈Y,Gs s) (hl:N≤200000)
include hX hN hG hl
theorem wq(P F Q:af)(hY:Y=P++(F++Q))(hF:cS F):∀W,ai w W→ah 16 #[.slice (some ⟨g,o,none⟩) N c,.int .i64 (P.length:Int)] W (aA (.int .i64 ((P.length+F.length:Nat):Int)) W):=fun W hW=>by
 have hPl:P.length≤N:=by rw[←hN,hY,List.length_append];omega
 have h1:=dk (some ⟨g,o,none⟩) c Y (P.length:Int) W ((hX.call hW).arg hG) (by omega) ⟨by omega,by omega⟩;rw[hN]at h1;rwa [show ag Y (P.length:Int)=((P.length+F.length:Nat):Int)from by rw[hY];exact hF.2.2 P Q]at h1
theorem wu(P F Q:af)(hY:Y=P++(F++Q))(hF:cS F)(hc1:N≤c)(hc:c≤9223372036854775807):∀W,ai w W→ah 94 #[.slice (some ⟨g,o,none⟩) N c,.int .i64 (P.length:Int)] W fun e w'=>∃g' n' cp,e=.returned (.slice (some ⟨g',0,none⟩) n' cp)∧aG w' W.heap.size g' n' cp F∧ai W w':=fun W hW=>by
 have hYl:P.length+F.length≤N:=by rw[←hN,hY,List.length_append,List.length_append];omega
 have h0:=hF.2.1;refine Gh g o c N P.length (P.length+F.length) W F ?_ (by omega) (by omega) (by omega) (by omega) hc fun W2 hW2=>wq hX hN hG hl P F Q hY hF W2 (hW.trans (hW2.mono hW.size))
 have:=hX.call hW;rw[hY]at this;exact this.OU
end
theorem J4{n:Nat}(ih:uc n)(b:Bool)(h:ByteArray)(A B B' P R F1 R1 G1 Z1:af)(kk:Nat)(g o c:Nat)(w:World){M:Bool→af→af→Prop}(hM:M=fun last X Y=>(MO n (b||fj h) X Y)∧(last=false→MO n b X Y))
  (hF:cS (al::(h::B'++[aq]))) (hfn:ae h [102,110]=false) (hX:Tx w g o (A++((al::(h::B'++[aq]))++B))) (hc1:(A++((al::(h::B'++[aq]))++B)).length≤c) (hc:c≤9223372036854775807) (hG:∀s∈A++((al::(h::B'++[aq]))++B),Gs s) (hl:(A++((al::(h::B'++[aq]))++B)).length≤200000)
  (hPR:P++R=h::B') (hR:R=F1++R1) (hF1:cS F1) (hMO:M (kk==0) F1 G1) (hk:ju M kk R1 Z1) (hGl:G1.length≤300000) :
  ∃(s:ByteArray) (inr:Bool),(s.toList==[41])=false∧∀W,ai w W→W.cell? ⟨g,o+(A.length+1+P.length),none⟩=some (.string s) ∧
   (ah 49 #[.slice (some ⟨g,o,none⟩) (A++((al::(h::B'++[aq]))++B)).length c,.int .i64 (A.length:Int),.int .i64 ((A.length+1+P.length:Nat):Int),.bool false] W (aA (.bool inr) W)) ∧
   (ah 57 #[.slice (some ⟨g,o,none⟩) (A++((al::(h::B'++[aq]))++B)).length c,.int .i64 ((A.length+1+P.length:Nat):Int),.bool (b||inr)] W fun e w'=>∃g' n' cp,e=.returned (.slice (some ⟨g',0,none⟩) n' cp)∧aG w' W.heap.size g' n' cp G1∧ai W w') ∧
   (ah 16 #[.slice (some ⟨g,o,none⟩) (A++((al::(h::B'++[aq]))++B)).length c,.int .i64 ((A.length+1+P.length:Nat):Int)] W (aA (.int .i64 ((A.length+1+(P++F1).length:Nat):Int)) W)):=by
 obtain⟨Y,hY⟩:∃Y,A++((al::(h::B'++[aq]))++B)=Y:=⟨_,rfl⟩;have hYF:ag Y (A.length:Int)=((A.length+(al::(h::B'++[aq])).length:Nat):Int):=by rw[←hY];exact hF.2.2 A B
 have hY1:aa Y ((A.length:Int)+1)=h:=by
  have e:Y=(A++[al])++(h::(B'++[aq]++B)):=by rw[←hY];simp
  have:=rD (A++[al]) (B'++[aq]++B) h;rw[←e,List.length_append]at this;exact this
 have hY2:Y=(A++al::P)++(F1++(R1++aq::B)):=by
  rw[←hY,←hPR,hR];simp
 have hPl:(A++al::P).length=A.length+1+P.length:=by simp;omega
 have hFl:(al::(h::B'++[aq])).length=2+P.length+F1.length+R1.length:=by
  rw[←hPR,hR];simp;omega
 have hYl:A.length+1+P.length+F1.length+R1.length+1+B.length=Y.length:=by rw[hY2];simp;omega
 rw[hY]at hX hc1 hG hl ⊢;have h0:=hF1.2.1;have hE1:ag Y ((A.length+1+P.length:Nat):Int)=((A.length+1+P.length+F1.length:Nat):Int):=by
  rw[←hPl,hY2];exact hF1.2.2 _ _
 obtain⟨s,F1',hs⟩:∃s F1',F1=s::F1':=by
  cases F1 with
  |nil=>simp at h0
  |cons s F1'=>exact⟨s,F1',rfl⟩
 have hsz:aa Y ((A.length+1+P.length:Nat):Int)=s:=by
  rw[←hPl,hY2,hs];exact rD _ _ s
 have hs41:ae s [41]=false:=by
  rw[←hsz];exact l7 (by rw[hE1];omega)
 refine⟨s,dK Y (A.length:Int) ((A.length+1+P.length:Nat):Int) false,hs41,fun W hW=>⟨?_,?_,?_,?_⟩⟩
 ·have:=hX.call hW;rw[hY2,hs]at this;have:=this.at (R:=F1'++(R1++aq::B));rwa [hPl]at this
 ·exact vK _ c Y A.length (A.length+1+P.length) false W ((hX.call hW).arg hG) (by omega) (by omega) (by omega)
 ·have hb:MO n (b||dK Y (A.length:Int) ((A.length+1+P.length:Nat):Int) false) F1 G1:=by
   rw[hM]at hMO;obtain⟨m1,m2⟩:=hMO;unfold dK dt dS;rw[hY1,hfn,if_neg (by decide),hE1,hYF];cases hlo:fj h
   ·rw[hlo]at m1;unfold fj at hlo;rw[hlo,if_neg (by decide)];exact m1
   ·rw[hlo]at m1;unfold fj at hlo;rw[hlo,if_pos rfl];cases kk with
    |zero =>
     have hR1:R1=[]:=hk.1;rw[hR1]at hFl;rw[show(((A.length+1+P.length+F1.length:Nat):Int)==((A.length+(al::(h::B'++[aq])).length:Nat):Int)-1)=true from by rw[beq_iff_eq,hFl];simp;omega];exact m1
    |succ kk =>
     obtain⟨F2,R2,_,_,e,_,hF2,_,_⟩:=hk;have h2:=hF2.2.1;have hRl:0<R1.length:=by rw[e,List.length_append];omega
     rw[show(((A.length+1+P.length+F1.length:Nat):Int)==((A.length+(al::(h::B'++[aq])).length:Nat):Int)-1)=false from by rw[beq_eq_false_iff_ne,hFl];omega];rw[Bool.or_false];exact m2 rfl
  have hXW:=hX.call hW
  rw[hY2]at hXW hc1 hG hl
  have:=ih _ (A++al::P) F1 (R1++aq::B) G1 g o c W hb hF1 hXW hc1 hc hG hl hGl
  rw[←hY2,hPl]at this
  exact this
 ·have:=wq (c:=c) hX rfl hG (by omega) (A++al::P) F1 (R1++aq::B) hY2 hF1 W hW;rw[hPl]at this;rw[List.length_append,←Nat.add_assoc];exact this
end Go.Proofs.YtdojfommmpnbgaaGreatDoor
namespace Go.Proofs.YtdojfommmpnbgaaGreatDoor
open Go.RowKit Go.Shelf Go.Proofs.Tryz
set_option maxRecDepth 100000 in
set_option maxHeartbeats 4000000 in
theorem J3{n:Nat}(ih:uc n)(b:Bool)(h:ByteArray)(k:Nat)(A B B' U:af)(g o c:Nat)(w:World)
  (hIts:ju (fun last X Y=>(MO n (b||fj h) X Y)∧(last=false→MO n b X Y)) k (h::B') U) (hF:cS (al::(h::B'++[aq]))) (hfn:ae h [102,110]=false) (hbk:ae h [98,97,99,107]=false) (hlv:cJ h=none)
  (hX:Tx w g o (A++((al::(h::B'++[aq]))++B))) (hc1:(A++((al::(h::B'++[aq]))++B)).length≤c) (hc:c≤9223372036854775807) (hG:∀s∈A++((al::(h::B'++[aq]))++B),Gs s) (hl:(A++((al::(h::B'++[aq]))++B)).length≤200000) (hUl:U.length≤300000) :
  ah 57 #[.slice (some ⟨g,o,none⟩) (A++((al::(h::B'++[aq]))++B)).length c,.int .i64 (A.length:Int),.bool b] w fun e w'=>∃g' n' cp,e=.returned (.slice (some ⟨g',0,none⟩) n' cp)∧aG w' w.heap.size g' n' cp (al::(U++[aq]))∧ai w w':=by
 obtain⟨M,hM⟩:∃M,M=(fun last X Y=>(MO n (b||fj h) X Y)∧(last=false→MO n b X Y)):=⟨_,rfl⟩;rw[←hM]at hIts
 have HIt:Hid (∀(kk:Nat) (P R F1 R1 G1 Z1:af),P++R=h::B'→R=F1++R1→cS F1→M (kk==0) F1 G1→ju M kk R1 Z1→G1.length≤300000→∃(s:ByteArray) (inr:Bool),(s.toList==[41])=false∧∀W,ai w W→W.cell? ⟨g,o+(A.length+1+P.length),none⟩=some (.string s) ∧
   (ah 49 #[.slice (some ⟨g,o,none⟩) (A++((al::(h::B'++[aq]))++B)).length c,.int .i64 (A.length:Int),.int .i64 ((A.length+1+P.length:Nat):Int),.bool false] W (aA (.bool inr) W)) ∧
   (ah 57 #[.slice (some ⟨g,o,none⟩) (A++((al::(h::B'++[aq]))++B)).length c,.int .i64 ((A.length+1+P.length:Nat):Int),.bool (b||inr)] W fun e w'=>∃g' n' cp,e=.returned (.slice (some ⟨g',0,none⟩) n' cp)∧aG w' W.heap.size g' n' cp G1∧ai W w') ∧
   (ah 16 #[.slice (some ⟨g,o,none⟩) (A++((al::(h::B'++[aq]))++B)).length c,.int .i64 ((A.length+1+P.length:Nat):Int)] W (aA (.int .i64 ((A.length+1+(P++F1).length:Nat):Int)) W))):=fun kk P R F1 R1 G1 Z1 e1 e2 e3 e4 e5 e6=>J4 ih b h A B B' P R F1 R1 G1 Z1 kk g o c w hM hF hfn hX hc1 hc hG hl e1 e2 e3 e4 e5 e6
 have hg:=hX.1;have hx:w.cell? ⟨g,o+A.length,none⟩=some (.string al):=hX.at;have hh:w.cell? ⟨g,o+(A.length+1),none⟩=some (.string h):=Tx.ON (P:=A) (x:=al) (y:=h) (R:=B'++[aq]++B) hX;have HEnd:Hid (∀W,ai w W→W.cell? ⟨g,o+(A.length+1+(h::B').length),none⟩=some (.string aq)):=fun W hW=>by
  have h1:=hX.call hW;rw[show A++((al::(h::B'++[aq]))++B)=(A++(al::(h::B')))++(aq::B)from by simp]at h1;have h2:=h1.at;rwa [show(A++(al::(h::B'))).length=A.length+1+(h::B').length from by simp;omega]at h2
 have hNl:(A++((al::(h::B'++[aq]))++B)).length=A.length+((h::B').length+2)+B.length:=by simp;omega
 have hk0:0<(h::B').length:=by simp
 obtain⟨N,hN⟩:∃N,(A++((al::(h::B'++[aq]))++B)).length=N:=⟨_,rfl⟩;obtain⟨p,hp⟩:∃p,A.length=p:=⟨_,rfl⟩;obtain⟨X,hXX⟩:∃X,h::B'=X:=⟨_,rfl⟩;rw[hN,hp]at HIt ⊢;rw[hp]at hx hh HEnd hNl;rw[hN]at hl hNl;rw[hXX]at HIt HEnd hNl hk0 hIts;obtain⟨BL,hBL⟩:∃BL,B.length=BL:=⟨_,rfl⟩;obtain⟨XL,hXL⟩:∃XL,X.length=XL:=⟨_,rfl⟩;rw[hBL,hXL]at hNl;rw[hXL]at HEnd hk0;have HI0:=aj hIts;have hxb:(h.toList==[102,110])=false:=hfn;have hbb:(h.toList==[98,97,99,107])=false:=hbk;have hlb:(h.toList==[108,101,97,118,101])=false∧(h.toList==[110,101,120,116])=false:=by
  unfold cJ at hlv;constructor
  ·cases hq:ae h [108,101,97,118,101]
   ·exact hq
   ·rw[hq,if_pos rfl]at hlv;cases hlv
  ·cases hq:ae h [110,101,120,116]
   ·exact hq
   ·rw[hq]at hlv;split at hlv<;>cases hlv
 obtain⟨hb1,hb2⟩:=hlb;have b40:(al.toList==[40])=true:=iJ;have b41:(aq.toList==[41])=true:=kr _;have hp1:(p:Int)<(N:Int):=by omega
 have hp2:(p:Int)+1<(N:Int):=by omega
 have e1:((p:Int)+1).toNat=p+1:=by omega
 have e2:(0:Int)≤(p:Int)+1:=by omega
 have HNl:=aj hNl;clear hX hG hIts hF hfn hbk hlv hc1 hc hM hN hp hBL ih hNl;have hO0:aG (w.alloc (.cells #[.string ⟨#[40]⟩] 9)) w.heap.size w.heap.size 1 1 [al]:=mV w [al] (by simp);have hB0:=ay (Below.refl w.heap.size w) (.cells #[.string ⟨#[40]⟩] 9);go_enter func57,ntmps57;go_wp2;go_loopw [8,9] (fun v8 v9 wr=>∃(kk g5 n5 c5 z:Nat) (P R D Z:af),v9=.int .i64 (z:Int)∧v8=.slice (some ⟨g5,0,none⟩) n5 c5∧Hid (z=p+1+P.length∧P++R=X)∧Hid (ju M kk R Z)∧Hid (D++Z=U)∧Hid (aG wr w.heap.size g5 n5 c5 (al::D))∧ai w wr) (fun _ v9 _=>N-(intOf v9).toNat)
 case atStart=>exact⟨k,_,_,_,p+1,[],X,[],U,by go_num,rfl,⟨rfl,rfl⟩,HI0.out,rfl,hO0,hB0⟩
 case round =>
  clear hO0 hB0 HI0;obtain⟨kk,g5,n5,c5,z,P,R,D,Z,rfl,rfl,HP,HR,HD,HOw,hB⟩:=hrel;have hPl:P.length+R.length=XL:=by
   have:=HP.out.2;rw[←hXL,←this,List.length_append]
  have hz:=HP.out.1;have hzN:(z:Int)<(N:Int):=by
   have:=HNl.out;omega
  cases kk with
  |zero =>
   obtain⟨hRn,hZn⟩:R=[]∧Z=[]:=HR.out;have hzc:wr.cell? ⟨g,o+z,none⟩=some (.string aq):=by
    have:=HEnd.out wr hB;rw[hRn]at hPl;rwa [show p+1+XL=z from by rw[hz,←hPl];simp]at this
   have HDU:Hid (D=U):=by
    show D=U;rw[←HD.out,hZn,List.append_nil]
   have hbC:=ay (Below.refl wr.heap.size wr) (.cells #[.string ⟨#[41]⟩] 9);have hS4:=dM wr [aq] 9;have hO4:=bO HOw.out hbC;have hB4:=aw hB hbC;have hl2:(al::D).length+[aq].length≤400000:=by rw[HDU.out];simp;omega
   have hz4:=hB4.size;clear hRn hZn HR HD HP HOw hB hbC hz hPl HIt HEnd;go_wp2_with (at_builtin;refine jc _ rfl _ _ rfl rfl rfl hO4 hS4 hl2 hz4 ?_)
   intro g6 c6 w5 hO5 hb5;have hB5:=hB4.trans hb5;have HO5:Hid (aG w5 w.heap.size g6 (n5+1) c6 (al::(U++[aq]))):=by
    have:=hO5;rw[HDU.out]at this;exact this
   clear hO5 hb5 hB4 hO4 hS4 HDU;go_wp2;go_ret;exact⟨_,_,_,rfl,HO5.out,hB5⟩
  |succ kk =>
   obtain⟨F1,R1,G1,Z1,hRF,hZG,hF1,hM1,hR1⟩:=HR.out;have h0:=hF1.2.1;have hDl:D.length+G1.length≤300000:=by
    have:=congrArg List.length HD.out;rw[hZG]at this;simp only[List.length_append]at this;omega
   obtain⟨s,inr,hs41,HW⟩:=HIt.out kk P R F1 R1 G1 Z1 HP.out.2 hRF hF1 hM1 hR1 (by omega);rw[←hz]at HW;have HA:Hid (∀W,ai w W→(ah 49 #[.slice (some ⟨g,o,none⟩) N c,.int .i64 p,.int .i64 z,.bool false] W (aA (.bool inr) W))):=fun W hW=>(HW W hW).2.1
   have HB:Hid (∀W,ai w W→(ah 57 #[.slice (some ⟨g,o,none⟩) N c,.int .i64 z,.bool (b||inr)] W fun e w'=>∃g' n' cp,e=.returned (.slice (some ⟨g',0,none⟩) n' cp)∧aG w' W.heap.size g' n' cp G1∧ai W w')):=fun W hW=>(HW W hW).2.2.1
   have hFl:(P++F1).length≤XL:=by
    have:=congrArg List.length HP.out.2;rw[hRF,hXL]at this;simp only[List.length_append]at this ⊢;omega
   have HP2:Hid (p+1+(P++F1).length=p+1+(P++F1).length∧(P++F1)++R1=X):=⟨rfl,by rw[List.append_assoc,←hRF];exact HP.out.2⟩;have hzl:z<p+1+(P++F1).length:=by rw[hz,List.length_append];omega
   obtain⟨z2,hz2⟩:∃z2,p+1+(P++F1).length=z2:=⟨_,rfl⟩;have HC:Hid (∀W,ai w W→(ah 16 #[.slice (some ⟨g,o,none⟩) N c,.int .i64 z] W (aA (.int .i64 z2) W))):=fun W hW=>by
    have:=(HW W hW).2.2.2;rwa [hz2]at this
   have HP3:Hid (z2=p+1+(P++F1).length∧(P++F1)++R1=X):=⟨hz2.symm,HP2.out.2⟩;rw[hz2]at hzl;have hz2N:z2≤N:=by
    have:=HNl.out;omega
   have hzc:=(HW wr hB).1;have HR2:=aj hR1;have HD2:Hid ((D++G1)++Z1=U):=by
    show(D++G1)++Z1=U;rw[List.append_assoc,←hZG];exact HD.out
   have hl2:(al::D).length+G1.length≤400000:=by simp;omega
   clear hRF hZG hF1 hM1 hR1 HW HIt HEnd HP HP2 HR HD hz2 hFl hDl h0 hPl hz;cases b
   ·rw[Bool.false_or]at HB;go_wp2_with fail;refine(HA.out _ hB).mono ?_;rintro e w1 ⟨rfl,hb1⟩;have hB1:=aw hB hb1;have hO1:=bO HOw.out hb1;clear HA hb1 HOw hB hzc;go_wp2_with fail;refine(HB.out _ hB1).mono ?_;rintro e w2 ⟨g2,n2,c2,rfl,hO2,hb2⟩;have hB2:=aw hB1 hb2;have hS2:=aG.sl hO2;have hO3:=bO hO1 hb2;have hz3:=hB2.size;clear HB hb2 hO2 hO1 hB1;go_wp2_with (at_builtin;refine jc _ rfl _ _ rfl rfl rfl hO3 hS2 hl2 hz3 ?_)
    intro g6 c6 w5 hO5 hb5;have hB5:=hB2.trans hb5;have HO5:=aj hO5;clear hO5 hb5 hB2 hO3 hS2;obtain⟨n6,hn6⟩:∃n6,n5+G1.length=n6:=⟨_,rfl⟩;rw[hn6]at HO5 ⊢;go_wp2_with fail;refine(HC.out _ hB5).mono ?_;rintro e w6 ⟨rfl,hb6⟩;have hB6:=aw hB5 hb6;have HO6:Hid (aG w6 w.heap.size g6 n6 c6 (al::(D++G1))):=bO HO5.out hb6;clear HO5 hB5 hb6;go_wp2;go_roundw
    case rel=>exact⟨kk,g6,n6,c6,z2,P++F1,R1,D++G1,Z1,by go_num,by go_num,HP3.out,HR2.out,HD2.out,HO6.out,hB6⟩
    case measure=>simp[intOf];omega
   ·rw[Bool.true_or]at HB;clear HA;have hO1:=HOw.out;go_wp2_with fail;refine(HB.out _ hB).mono ?_;rintro e w2 ⟨g2,n2,c2,rfl,hO2,hb2⟩;have hB2:=aw hB hb2;have hS2:=aG.sl hO2;have hO3:=bO hO1 hb2;have hz3:=hB2.size;clear HB hb2 hO2 hO1 hB HOw hzc;go_wp2_with (at_builtin;refine jc _ rfl _ _ rfl rfl rfl hO3 hS2 hl2 hz3 ?_)
    intro g6 c6 w5 hO5 hb5;have hB5:=hB2.trans hb5;have HO5:=aj hO5;clear hO5 hb5 hB2 hO3 hS2;obtain⟨n6,hn6⟩:∃n6,n5+G1.length=n6:=⟨_,rfl⟩;rw[hn6]at HO5 ⊢;go_wp2_with fail;refine(HC.out _ hB5).mono ?_;rintro e w6 ⟨rfl,hb6⟩;have hB6:=aw hB5 hb6;have HO6:Hid (aG w6 w.heap.size g6 n6 c6 (al::(D++G1))):=bO HO5.out hb6;clear HO5 hB5 hb6;go_wp2;go_roundw
    case rel=>exact⟨kk,g6,n6,c6,z2,P++F1,R1,D++G1,Z1,by go_num,by go_num,HP3.out,HR2.out,HD2.out,HO6.out,hB6⟩
    case measure=>simp[intOf];omega
theorem B6:∀n,uc n
 |0=>fun _ _ _ _ _ _ _ _ _ h=>absurd h id
 |n+1=>fun b A F B G g o c w hM hF hX hc1 hc hG hl hGl=>by
  have ih:=B6 n;have h0:=hF.2.1;rcases hM with⟨x,rfl,rfl,hx⟩|⟨B',rfl,rfl⟩|⟨S,rfl,hS,rfl⟩|⟨h,t,rfl,ht,rfl⟩|⟨h,k,B',U,rfl,rfl,hpl,hfn,hbk,hlv,hIts⟩
  ·exact J7 g o c _ A.length w x b (Tx.at (R:=B) hX) (by simp) hx
  ·have hIn:=wu (c:=c) hX rfl hG (by omega) A (al::bG::B') B rfl hF hc1 hc w (Below.refl _ _);exact J2 g o c _ A.length w _ bG b (by omega) (Tx.at (R:=bG::B'++B) hX) (Tx.ON (R:=B'++B) hX) (by simp) (kr _) hIn
  ·have hY:A++((al::bm::(S++[aq]))++B)=(A++[al,bm])++(S++(aq::B)):=by simp
   have hS0:=hS.2.1;have hSl:S.length≤300000:=by simp at hGl;omega
   have hIn:=wu (c:=c) hX rfl hG (by omega) (A++[al,bm]) S (aq::B) hY hS hc1 hc;rw[show(((A++[al,bm]).length:Nat):Int)=(A.length:Int)+2 from by simp]at hIn;have hbk:ae bm [98,97,99,107]=true:=kr _;have:=J1 g o c (A++((al::bm::(S++[aq]))++B)).length A.length w S bm b (by omega) (Tx.at (R:=bm::(S++[aq])++B) hX) (Tx.ON (R:=(S++[aq])++B) hX) (by simp) hSl (aQ hbk (by decide)) hbk hIn;rwa [show [al,bm,al,cW,bV]++S++[aq,aq]=al::bm::al::cW::bV::(S++[aq,aq])from by simp]at this
  ·obtain⟨l1,l2,l3,l4,l5⟩:=s5 ht;have hIn:=wu (c:=c) hX rfl hG (by omega) A [al,h,aq] B rfl hF hc1 hc w (Below.refl _ _);have hx:=Tx.at (P:=A) (x:=al) (R:=[h,aq]++B) hX;have hh:=Tx.ON (P:=A) (x:=al) (y:=h) (R:=[aq]++B) hX;cases b
   ·rcases sZ ht with⟨hh1,rfl⟩|⟨hh1,rfl⟩
    ·exact J5 g o c _ A.length w h (by omega) hx hh (by simp) l2 l4 hh1
    ·exact J6 g o c _ A.length w h (by omega) hx hh (by simp) l2 l4 (aQ hh1 (by decide)) hh1
   ·refine J8 g o c _ A.length w _ h (by omega) hx hh (by simp) l2 l4 ?_ hIn;rcases sZ ht with⟨hh1,_⟩|⟨hh1,_⟩
    ·exact Or.inl hh1
    ·exact Or.inr ⟨aQ hh1 (by decide),hh1⟩
  ·exact J3 ih b h k A B B' U g o c w hIts hF hfn hbk hlv hX hc1 hc hG hl (by simp at hGl;omega)
structure Mb (c gn cn gf fc:Nat) (w:World) (a:Option Addr) (L X:af) (k:Nat):Prop where
 lt:c<w.heap.size
 c0:w.cell? ⟨c,0,none⟩=some (.slice (some ⟨gn,0,none⟩) X.length cn)
 c1:w.cell? ⟨c,1,none⟩=some (.int .i64 k)
 fz:w.frozen? ⟨c,1,none⟩=false
 arg:jN c w a L
 nm:Tx w gn 0 X
 ne:gn≠c
 fl:cG w gf L.length (fG L)
 nf:gf≠c
section
variable {c gn cn gf fc:Nat} {w w':World} {a:Option Addr} {L X:af} {k k':Nat}
theorem Mb.put(h:Mb c gn cn gf fc w a L X k)(hb:az c w w')(h0:w'.cell? ⟨c,0,none⟩=w.cell? ⟨c,0,none⟩)(h1:w'.cell? ⟨c,1,none⟩=some (.int .i64 (k':Int)))(hf:w'.frozen? ⟨c,1,none⟩=false):Mb c gn cn gf fc w' a L X k' :=
 ⟨Nat.lt_of_lt_of_le h.lt hb.2.2.2.1,h0.trans h.c0,h1,hf,h.arg.but hb,⟨Nat.lt_of_lt_of_le h.nm.1 hb.2.2.2.1,fun i hi=>(hb.cell gn _ h.nm.1 h.ne).trans (h.nm.2 i hi)⟩,h.ne,⟨Nat.lt_of_lt_of_le h.fl.1 hb.2.2.2.1,fun i hi=>(hb.cell gf _ h.fl.1 h.nf).trans (h.fl.2 i hi)⟩,h.nf⟩
theorem Mb.call(h:Mb c gn cn gf fc w a L X k)(hb:ai w w'):Mb c gn cn gf fc w' a L X k :=
 h.put (az.j hb) (hb.cell (p:=⟨c,0,none⟩) h.lt) ((hb.cell (p:=⟨c,1,none⟩) h.lt).trans h.c1) ((hb.frozen (p:=⟨c,1,none⟩) h.lt).trans h.fz)
end
theorem wB{c:Nat}{w w':World}{B g n cp:Nat}{X:af}(h:aG w B g n cp X)(hb:az c w w')(hn:c<B):aG w' B g n cp X :=
 cR h fun g' hg'=>hb.2.2.2.2 g' (World.ownsRow.lt h g' hg').2 (by have:=(World.ownsRow.lt h g' hg').1;omega)
def pV(w:World)(c gn N cn k:Nat)(s:ByteArray)(x:World):Prop:=(x.cell? ⟨c,0,none⟩=some (.slice (some ⟨gn,0,none⟩) N cn)∧x.cell? ⟨c,1,none⟩=some (.int .i64 k)∧x.frozen? ⟨c,1,none⟩=false)∧x.cell? ⟨gn,k,none⟩=some (.string s)∧c<x.heap.size∧ai w x
theorem pV.drew{w x:World}{c gn N cn k:Nat}{s:ByteArray}(h:pV w c gn N cn k s x):pV w c gn N cn k s x.drew:=⟨h.1,h.2.1,h.2.2.1,h.2.2.2.drew⟩
set_option maxRecDepth 100000 in
set_option maxHeartbeats 2000000 in
theorem Jf{c gn cn gf fc:Nat}{w:World}{a:Option Addr}{L X:af}{k:Nat}(h:Mb c gn cn gf fc w a L X k)(hk:k<X.length)(hX:X.length≤1000000) :
  ah 56 #[.pointer (some ⟨c,0,none⟩)] w fun e w'=>e=.returned (.string X[k])∧Mb c gn cn gf fc w' a L X (k+1)∧az c w w':=by
 have hn:=h.nm.2 k hk;obtain⟨N,hN⟩:∃N,X.length=N:=⟨_,rfl⟩;obtain⟨s,hs⟩:∃s,X[k]=s:=⟨_,rfl⟩;have hc0:=h.c0;rw[hs]at hn ⊢;rw[hN]at hc0 hk hX;rw[Nat.zero_add]at hn;have hT:pV w c gn N cn k s w:=⟨⟨hc0,h.c1,h.fz⟩,hn,h.lt,Below.refl _ _⟩;have hk1:(k:Int)<(N:Int):=by omega
 have HM:=aj h;have hcz:=h.lt;have hw:IntKind.i64.wrap ((k:Int)+1)=((k+1:Nat):Int):=by rw[IntKind.wrap_i64];omega
 clear h hN hs hc0 hn;go_enter func56,ntmps56;go_upto_region 1 with fail
 go_region_held3 (fun x=>(x.cell? ⟨c,0,none⟩=some (.slice (some ⟨gn,0,none⟩) N cn)∧x.cell? ⟨c,1,none⟩=some (.int .i64 k)∧x.frozen? ⟨c,1,none⟩=false)∧x.cell? ⟨gn,k,none⟩=some (.string s)∧c<x.heap.size∧ai w x)
  ((show pV w c gn N cn k s _;first|(with_reducible exact hT3)|(with_reducible exact hT.drew)))
  (first|fail|fail)
 all_goals go_wp2
 all_goals go_ret
 obtain⟨⟨t0,t1,t2⟩,t3,t4,t5⟩:=hT;exact⟨rfl,HM.out.put ((az.refl c w).setCur 1 _).drew (by simp[go_sem]) (by simp[go_sem,t1]) (by simp[go_sem,t2]),((az.refl c w).setCur 1 _).drew⟩
end Go.Proofs.YtdojfommmpnbgaaGreatDoor
