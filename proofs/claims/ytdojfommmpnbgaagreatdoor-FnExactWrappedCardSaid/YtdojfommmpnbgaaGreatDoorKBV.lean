import Derived.Test.YtdojfommmpnbgaaGreatDoorKBU
set_option maxHeartbeats 4000000
namespace Go.Proofs.YtdojfommmpnbgaaGreatDoor
open Go.RowKit Go.Proofs.Tryz
theorem Jw(g o c N p:Nat)(x:ByteArray)(b:Bool)(w:World)(hx:w.cell? ⟨g,o+p,none⟩=some (.string x))(h40:ae x [40]=false)(hp:p<N)(hN:N≤c)(hc:c≤9223372036854775807) :
  ah 136 #[.slice (some ⟨g,o,none⟩) N c,.int .i64 p,.bool b] w fun e w'=>e=.returned (.tuple #[.slice (some ⟨g,o+p,none⟩) 1 1,.int .i64 ((p+1:Nat):Int)])∧w'=w:=by
 have b40:(x.toList==[40])=false:=h40;have hcut:Hid (ah 170 #[.slice (some ⟨g,o,none⟩) N c,.int .i64 p,.int .i64 ((p:Int)+1)] w fun e w'=>e=.returned (.slice (some ⟨g,o+p,none⟩) 1 1)∧w'=w):=by
  have:=qj g o N c p (p+1) w (by omega) (by omega);rw[show p+1-p=1 by omega,show((p+1:Nat):Int)=(p:Int)+1 by omega]at this;exact this
 go_enter func136,ntmps136;go_wp2_with fail;refine hcut.out.mono ?_;rintro e w1 ⟨rfl,rfl⟩;go_wp2;go_ret2;exact⟨by first|rfl|(congr 3),rfl⟩
theorem Jt(g o c N p q:Nat)(b:Bool)(w:World)(hx:w.cell? ⟨g,o+p,none⟩=some (.string al))(hh:w.cell? ⟨g,o+(p+1),none⟩=some (.string bG))(hg:g<w.heap.size)(hpq:p+2≤q)(hq:q≤N)(hN:N≤c)(hc:c≤9223372036854775807)
  (HI:Hid (∀W,ai w W→ah 44 #[.slice (some ⟨g,o,none⟩) N c,.int .i64 p] W (aA (.int .i64 q) W))) :
  ah 136 #[.slice (some ⟨g,o,none⟩) N c,.int .i64 p,.bool b] w (aA (.tuple #[.slice (some ⟨g,o+p,none⟩) (q-p) (q-p),.int .i64 q]) w):=by
 have b40:(al.toList==[40])=true:=iJ;have bfn:(bG.toList==[102,110])=true:=kr [102,110];have hp1:(p:Int)<(N:Int):=by omega
 have hp2:(p:Int)+1<(N:Int):=by omega
 have e1:((p:Int)+1).toNat=p+1:=by omega
 have e2:(0:Int)≤(p:Int)+1:=by omega
 go_enter func136,ntmps136;go_wp2_with fail;refine(HI.out _ (Below.refl _ _)).mono ?_;rintro e w1 ⟨rfl,hb1⟩;have hh1:=(hb1.cell (p:=⟨g,o+(p+1),none⟩) hg).trans hh;go_wp2_with fail;refine(qj g o N c p q _ (by omega) (by omega)).mono ?_;rintro e w2 ⟨rfl,rfl⟩;go_wp2;go_ret2;exact⟨rfl,hb1⟩
theorem JD(g o c N p q:Nat)(h:ByteArray)(U:af)(b:Bool)(w:World)(hx:w.cell? ⟨g,o+p,none⟩=some (.string al))(hh:w.cell? ⟨g,o+(p+1),none⟩=some (.string h))(hg:g<w.heap.size)(hpq:p+3≤q)(hq:q≤N)(hN:N≤c)(hc:c≤9223372036854775807)
  (HI:Hid (∀W,ai w W→ah 44 #[.slice (some ⟨g,o,none⟩) N c,.int .i64 p] W (aA (.int .i64 q) W)))
  (b_fn:(h.toList==[102,110])=false) (b_wh:(h.toList==[119,104,105,108,101])=true) (hU:U.length≤500000) (HO:Hid (∀W,ai w W→ah 75 #[.slice (some ⟨g,o+(p+1),none⟩) (q-(p+1)) (c-(p+1)),.bool true] W fun e w'=>∃g' n' cp,e=.returned (.slice (some ⟨g',0,none⟩) n' cp)∧aG w' W.heap.size g' n' cp U∧ai W w')) :
  ah 136 #[.slice (some ⟨g,o,none⟩) N c,.int .i64 p,.bool b] w fun e w'=>∃g' n' cp,e=.returned (.tuple #[.slice (some ⟨g',0,none⟩) n' cp,.int .i64 q])∧aG w' w.heap.size g' n' cp [[al],U].flatten∧ai w w':=by
 have b40:(al.toList==[40])=true:=iJ;have hp1:(p:Int)<(N:Int):=by omega
 have hp2:(p:Int)+1<(N:Int):=by omega
 have e1:((p:Int)+1).toNat=p+1:=by omega
 have e2:(0:Int)≤(p:Int)+1:=by omega
 have e3:(p:Int)+1≤(q:Int):=by omega
 have e4:(q:Int)≤(c:Int):=by omega
 have e5:p+1<c:=by omega
 have e6:p<c:=by omega
 have e7:(p:Int)≤(q:Int):=by omega
 go_enter func136,ntmps136;go_wp2_with fail;refine(HI.out _ (Below.refl _ _)).mono ?_;rintro e w1 ⟨rfl,hb1⟩;have hh1:=(hb1.cell (p:=⟨g,o+(p+1),none⟩) hg).trans hh;have hbA:=ay (Below.refl w1.heap.size w1) (.cells #[.string ⟨#[40]⟩] 9);have hA:=dM w1 [al] 9;go_wp2_with fail;refine(HO.out _ (aw hb1 hbA)).mono ?_;rintro e w2 ⟨g2,n2,c2,rfl,hO2,hb2⟩;have HC:=kH w2 [.slice (some ⟨w1.heap.size,0,none⟩) 1 1,.slice (some ⟨g2,0,none⟩) n2 c2] [[al],U] rfl (fun i _ h'=>by
  match i,h' with
  |0,_=>exact Sl.call hA hb2
  |1,_=>exact aG.sl hO2) (by simp) (fun _=>by simp) (by simp) (by simp[eB];omega)
 have hB2:=aw (aw hb1 hbA) hb2;have hz:=hB2.size;clear hA hO2 hb1 hb2 hbA hh1;go_wp2_with fail;refine HC.mono ?_;rintro e w3 ⟨g3,n3,c3,rfl,hO,hb3⟩;go_wp2;go_ret2;exact⟨g3,n3,c3,rfl,dW hO hz,aw hB2 hb3⟩
theorem Ju(g o c N p q:Nat)(h:ByteArray)(U:af)(b:Bool)(w:World)(hx:w.cell? ⟨g,o+p,none⟩=some (.string al))(hh:w.cell? ⟨g,o+(p+1),none⟩=some (.string h))(hg:g<w.heap.size)(hpq:p+3≤q)(hq:q≤N)(hN:N≤c)(hc:c≤9223372036854775807)
  (HI:Hid (∀W,ai w W→ah 44 #[.slice (some ⟨g,o,none⟩) N c,.int .i64 p] W (aA (.int .i64 q) W)))
  (b_fn:(h.toList==[102,110])=false) (b_wh:(h.toList==[119,104,105,108,101])=false) (b_fo:(h.toList==[102,111,114])=true) (hU:U.length≤500000) (HO:Hid (∀W,ai w W→ah 75 #[.slice (some ⟨g,o+(p+1),none⟩) (q-(p+1)) (c-(p+1)),.bool true] W fun e w'=>∃g' n' cp,e=.returned (.slice (some ⟨g',0,none⟩) n' cp)∧aG w' W.heap.size g' n' cp U∧ai W w')) :
  ah 136 #[.slice (some ⟨g,o,none⟩) N c,.int .i64 p,.bool b] w fun e w'=>∃g' n' cp,e=.returned (.tuple #[.slice (some ⟨g',0,none⟩) n' cp,.int .i64 q])∧aG w' w.heap.size g' n' cp [[al],U].flatten∧ai w w':=by
 have b40:(al.toList==[40])=true:=iJ;have hp1:(p:Int)<(N:Int):=by omega
 have hp2:(p:Int)+1<(N:Int):=by omega
 have e1:((p:Int)+1).toNat=p+1:=by omega
 have e2:(0:Int)≤(p:Int)+1:=by omega
 have e3:(p:Int)+1≤(q:Int):=by omega
 have e4:(q:Int)≤(c:Int):=by omega
 have e5:p+1<c:=by omega
 have e6:p<c:=by omega
 have e7:(p:Int)≤(q:Int):=by omega
 go_enter func136,ntmps136;go_wp2_with fail;refine(HI.out _ (Below.refl _ _)).mono ?_;rintro e w1 ⟨rfl,hb1⟩;have hh1:=(hb1.cell (p:=⟨g,o+(p+1),none⟩) hg).trans hh;have hbA:=ay (Below.refl w1.heap.size w1) (.cells #[.string ⟨#[40]⟩] 9);have hA:=dM w1 [al] 9;go_wp2_with fail;refine(HO.out _ (aw hb1 hbA)).mono ?_;rintro e w2 ⟨g2,n2,c2,rfl,hO2,hb2⟩;have HC:=kH w2 [.slice (some ⟨w1.heap.size,0,none⟩) 1 1,.slice (some ⟨g2,0,none⟩) n2 c2] [[al],U] rfl (fun i _ h'=>by
  match i,h' with
  |0,_=>exact Sl.call hA hb2
  |1,_=>exact aG.sl hO2) (by simp) (fun _=>by simp) (by simp) (by simp[eB];omega)
 have hB2:=aw (aw hb1 hbA) hb2;have hz:=hB2.size;clear hA hO2 hb1 hb2 hbA hh1;go_wp2_with fail;refine HC.mono ?_;rintro e w3 ⟨g3,n3,c3,rfl,hO,hb3⟩;go_wp2;go_ret2;exact⟨g3,n3,c3,rfl,dW hO hz,aw hB2 hb3⟩
theorem JA(g o c N p q:Nat)(h:ByteArray)(w:World)(X:af)(hX:Tx w g (o+p+2) X)(hXl:X.length=q-p-3)(hXb:X.length≤500000)(b:Bool)(hx:w.cell? ⟨g,o+p,none⟩=some (.string al))(hh:w.cell? ⟨g,o+(p+1),none⟩=some (.string h))(hg:g<w.heap.size)(hpq:p+3≤q)(hq:q≤N)(hN:N≤c)(hc:c≤9223372036854775807)
  (HI:Hid (∀W,ai w W→ah 44 #[.slice (some ⟨g,o,none⟩) N c,.int .i64 p] W (aA (.int .i64 q) W)))
  (b_fn:(h.toList==[102,110])=false) (b_wh:(h.toList==[119,104,105,108,101])=false) (b_fo:(h.toList==[102,111,114])=false) (hv:gd h g (o+p+2) (q-p-3) (c-p-2)=.iface 155 (.agg #[.slice (some ⟨g,o+p+2,none⟩) (q-p-3) (c-p-2)])) (hw:gP h=true) :
  ah 136 #[.slice (some ⟨g,o,none⟩) N c,.int .i64 p,.bool b] w fun e w'=>∃g' n' cp,e=.returned (.tuple #[.slice (some ⟨g',0,none⟩) n' cp,.int .i64 q])∧aG w' w.heap.size g' n' cp [[al,bm,al,cW,bV],X,[aq,aq]].flatten∧ai w w':=by
 have b40:(al.toList==[40])=true:=iJ;have hp1:(p:Int)<(N:Int):=by omega
 have hp2:(p:Int)+1<(N:Int):=by omega
 have e1:((p:Int)+1).toNat=p+1:=by omega
 have e2:(0:Int)≤(p:Int)+1:=by omega
 have e3:(p:Int)+1≤(q:Int):=by omega
 have e4:(q:Int)≤(c:Int):=by omega
 have e5:p+1<c:=by omega
 have e6:p<c:=by omega
 have e7:(p:Int)≤(q:Int):=by omega
 have e8:q-p-3=q-(p+3):=by omega
 have HW:Hid (∀W,ai w W→ah 171 #[.slice (some ⟨g,o+p,none⟩) (q-p) (c-p)] W (aA (.tuple #[.iface 155 (.agg #[.slice (some ⟨g,o+p+2,none⟩) (q-p-3) (c-p-2)]),.bool true]) W)):=fun W hW=>by
  have h1:=pS g (o+p) (q-p) (c-p) h W (Nat.lt_of_lt_of_le hg hW.size) (by rw[Nat.add_assoc];exact(hW.cell (p:=⟨g,o+(p+1),none⟩) hg).trans hh) (by omega) (by omega) (by omega);rw[hv,hw]at h1;exact h1
 go_enter func136,ntmps136;go_wp2_with fail;refine(HI.out _ (Below.refl _ _)).mono ?_;rintro e w1 ⟨rfl,hb1⟩;have hh1:=(hb1.cell (p:=⟨g,o+(p+1),none⟩) hg).trans hh;go_wp2_with fail;refine(HW.out _ hb1).mono ?_;rintro e w2 ⟨rfl,hb2⟩;have hB2:=aw hb1 hb2;cases b
 ·go_wp2_with fail;have hS:=((hX.call hb1).call hb2).sl (c:=c-p-2) (by omega);rw[hXl]at hS;refine(ye _ X _ hS hXb).mono ?_;rintro e w4 ⟨g4,n4,c4,rfl,hO,hb4⟩;go_wp2;go_ret2;exact⟨g4,n4,c4,rfl,dW hO hB2.size,aw hB2 hb4⟩
 ·go_wp2_with fail;refine(N6 _ _).mono ?_;rintro e w3 ⟨rfl,hb3⟩;have hB3:=aw hB2 hb3;go_wp2_with fail;have hS:=(((hX.call hb1).call hb2).call hb3).sl (c:=c-p-2) (by omega);rw[hXl]at hS;refine(ye _ X _ hS hXb).mono ?_;rintro e w4 ⟨g4,n4,c4,rfl,hO,hb4⟩;go_wp2;go_ret2;exact⟨g4,n4,c4,rfl,dW hO hB3.size,aw hB3 hb4⟩
theorem JB(g o c N p q:Nat)(h:ByteArray)(w:World)(hx:w.cell? ⟨g,o+p,none⟩=some (.string al))(hh:w.cell? ⟨g,o+(p+1),none⟩=some (.string h))(hg:g<w.heap.size)(hpq:p+3≤q)(hq:q≤N)(hN:N≤c)(hc:c≤9223372036854775807)
  (HI:Hid (∀W,ai w W→ah 44 #[.slice (some ⟨g,o,none⟩) N c,.int .i64 p] W (aA (.int .i64 q) W)))
  (b_fn:(h.toList==[102,110])=false) (b_wh:(h.toList==[119,104,105,108,101])=false) (b_fo:(h.toList==[102,111,114])=false) (hv:gd h g (o+p+2) (q-p-3) (c-p-2)=.iface 157 (.agg #[])) (hw:gP h=true) :
  ah 136 #[.slice (some ⟨g,o,none⟩) N c,.int .i64 p,.bool false] w fun e w'=>∃g' n' cp,e=.returned (.tuple #[.slice (some ⟨g',0,none⟩) n' cp,.int .i64 q])∧aG w' w.heap.size g' n' cp [[al,bm,al,cW,cl],[],[aq,aq]].flatten∧ai w w':=by
 have b40:(al.toList==[40])=true:=iJ;have hp1:(p:Int)<(N:Int):=by omega
 have hp2:(p:Int)+1<(N:Int):=by omega
 have e1:((p:Int)+1).toNat=p+1:=by omega
 have e2:(0:Int)≤(p:Int)+1:=by omega
 have e3:(p:Int)+1≤(q:Int):=by omega
 have e4:(q:Int)≤(c:Int):=by omega
 have e5:p+1<c:=by omega
 have e6:p<c:=by omega
 have e7:(p:Int)≤(q:Int):=by omega
 have e8:q-p-3=q-(p+3):=by omega
 have HW:Hid (∀W,ai w W→ah 171 #[.slice (some ⟨g,o+p,none⟩) (q-p) (c-p)] W (aA (.tuple #[.iface 157 (.agg #[]),.bool true]) W)):=fun W hW=>by
  have h1:=pS g (o+p) (q-p) (c-p) h W (Nat.lt_of_lt_of_le hg hW.size) (by rw[Nat.add_assoc];exact(hW.cell (p:=⟨g,o+(p+1),none⟩) hg).trans hh) (by omega) (by omega) (by omega);rw[hv,hw]at h1;exact h1
 go_enter func136,ntmps136;go_wp2_with fail;refine(HI.out _ (Below.refl _ _)).mono ?_;rintro e w1 ⟨rfl,hb1⟩;have hh1:=(hb1.cell (p:=⟨g,o+(p+1),none⟩) hg).trans hh;go_wp2_with fail;refine(HW.out _ hb1).mono ?_;rintro e w2 ⟨rfl,hb2⟩;have hB2:=aw hb1 hb2;go_wp2_with fail;refine(D5 _).mono ?_;rintro e w4 ⟨g4,n4,c4,rfl,hO,hb4⟩;go_wp2;go_ret2;exact⟨g4,n4,c4,rfl,dW hO hB2.size,aw hB2 hb4⟩
theorem JC(g o c N p q:Nat)(h:ByteArray)(w:World)(hx:w.cell? ⟨g,o+p,none⟩=some (.string al))(hh:w.cell? ⟨g,o+(p+1),none⟩=some (.string h))(hg:g<w.heap.size)(hpq:p+3≤q)(hq:q≤N)(hN:N≤c)(hc:c≤9223372036854775807)
  (HI:Hid (∀W,ai w W→ah 44 #[.slice (some ⟨g,o,none⟩) N c,.int .i64 p] W (aA (.int .i64 q) W)))
  (b_fn:(h.toList==[102,110])=false) (b_wh:(h.toList==[119,104,105,108,101])=false) (b_fo:(h.toList==[102,111,114])=false) (hv:gd h g (o+p+2) (q-p-3) (c-p-2)=.iface 158 (.agg #[])) (hw:gP h=true) :
  ah 136 #[.slice (some ⟨g,o,none⟩) N c,.int .i64 p,.bool false] w fun e w'=>∃g' n' cp,e=.returned (.tuple #[.slice (some ⟨g',0,none⟩) n' cp,.int .i64 q])∧aG w' w.heap.size g' n' cp [[al,bm,al,cW,eR],[],[aq,aq]].flatten∧ai w w':=by
 have b40:(al.toList==[40])=true:=iJ;have hp1:(p:Int)<(N:Int):=by omega
 have hp2:(p:Int)+1<(N:Int):=by omega
 have e1:((p:Int)+1).toNat=p+1:=by omega
 have e2:(0:Int)≤(p:Int)+1:=by omega
 have e3:(p:Int)+1≤(q:Int):=by omega
 have e4:(q:Int)≤(c:Int):=by omega
 have e5:p+1<c:=by omega
 have e6:p<c:=by omega
 have e7:(p:Int)≤(q:Int):=by omega
 have e8:q-p-3=q-(p+3):=by omega
 have HW:Hid (∀W,ai w W→ah 171 #[.slice (some ⟨g,o+p,none⟩) (q-p) (c-p)] W (aA (.tuple #[.iface 158 (.agg #[]),.bool true]) W)):=fun W hW=>by
  have h1:=pS g (o+p) (q-p) (c-p) h W (Nat.lt_of_lt_of_le hg hW.size) (by rw[Nat.add_assoc];exact(hW.cell (p:=⟨g,o+(p+1),none⟩) hg).trans hh) (by omega) (by omega) (by omega);rw[hv,hw]at h1;exact h1
 go_enter func136,ntmps136;go_wp2_with fail;refine(HI.out _ (Below.refl _ _)).mono ?_;rintro e w1 ⟨rfl,hb1⟩;have hh1:=(hb1.cell (p:=⟨g,o+(p+1),none⟩) hg).trans hh;go_wp2_with fail;refine(HW.out _ hb1).mono ?_;rintro e w2 ⟨rfl,hb2⟩;have hB2:=aw hb1 hb2;go_wp2_with fail;refine(D6 _).mono ?_;rintro e w4 ⟨g4,n4,c4,rfl,hO,hb4⟩;go_wp2;go_ret2;exact⟨g4,n4,c4,rfl,dW hO hB2.size,aw hB2 hb4⟩
theorem Jv(g o c N p q:Nat)(h:ByteArray)(b:Bool)(w:World)(hx:w.cell? ⟨g,o+p,none⟩=some (.string al))(hh:w.cell? ⟨g,o+(p+1),none⟩=some (.string h))(hg:g<w.heap.size)(hpq:p+3≤q)(hq:q≤N)(hN:N≤c)(hc:c≤9223372036854775807)
  (HI:Hid (∀W,ai w W→ah 44 #[.slice (some ⟨g,o,none⟩) N c,.int .i64 p] W (aA (.int .i64 q) W)))
  (b_fn:(h.toList==[102,110])=false) (b_wh:(h.toList==[119,104,105,108,101])=false) (b_fo:(h.toList==[102,111,114])=false) (hv:gd h g (o+p+2) (q-p-3) (c-p-2)=.nilIface) (hw:gP h=false) :
  ah 136 #[.slice (some ⟨g,o,none⟩) N c,.int .i64 p,.bool b] w (aA (.tuple #[.slice (some ⟨g,o+p,none⟩) 1 1,.int .i64 ((p+1:Nat):Int)]) w):=by
 have b40:(al.toList==[40])=true:=iJ;have hp1:(p:Int)<(N:Int):=by omega
 have hp2:(p:Int)+1<(N:Int):=by omega
 have e1:((p:Int)+1).toNat=p+1:=by omega
 have e2:(0:Int)≤(p:Int)+1:=by omega
 have e3:(p:Int)+1≤(q:Int):=by omega
 have e4:(q:Int)≤(c:Int):=by omega
 have e5:p+1<c:=by omega
 have e6:p<c:=by omega
 have e7:(p:Int)≤(q:Int):=by omega
 have hcut:Hid (∀W,ah 170 #[.slice (some ⟨g,o,none⟩) N c,.int .i64 p,.int .i64 ((p:Int)+1)] W fun e w'=>e=.returned (.slice (some ⟨g,o+p,none⟩) 1 1)∧w'=W):=fun W=>by
  have:=qj g o N c p (p+1) W (by omega) (by omega);rw[show p+1-p=1 by omega,show((p+1:Nat):Int)=(p:Int)+1 by omega]at this;exact this
 have e8:q-p-3=q-(p+3):=by omega
 have HW:Hid (∀W,ai w W→ah 171 #[.slice (some ⟨g,o+p,none⟩) (q-p) (c-p)] W (aA (.tuple #[.nilIface,.bool false]) W)):=fun W hW=>by
  have h1:=pS g (o+p) (q-p) (c-p) h W (Nat.lt_of_lt_of_le hg hW.size) (by rw[Nat.add_assoc];exact(hW.cell (p:=⟨g,o+(p+1),none⟩) hg).trans hh) (by omega) (by omega) (by omega);rw[hv,hw]at h1;exact h1
 go_enter func136,ntmps136;go_wp2_with fail;refine(HI.out _ (Below.refl _ _)).mono ?_;rintro e w1 ⟨rfl,hb1⟩;have hh1:=(hb1.cell (p:=⟨g,o+(p+1),none⟩) hg).trans hh;go_wp2_with fail;refine(HW.out _ hb1).mono ?_;rintro e w2 ⟨rfl,hb2⟩;have hB2:=aw hb1 hb2;go_wp2_with fail;refine(hcut.out _).mono ?_;rintro e w4 ⟨rfl,rfl⟩;go_wp2;go_ret2;exact⟨by first|rfl|(congr 3),hB2⟩
theorem Jy(g o c N p q:Nat)(h:ByteArray)(w:World)(hx:w.cell? ⟨g,o+p,none⟩=some (.string al))(hh:w.cell? ⟨g,o+(p+1),none⟩=some (.string h))(hg:g<w.heap.size)(hpq:p+3≤q)(hq:q≤N)(hN:N≤c)(hc:c≤9223372036854775807)
  (HI:Hid (∀W,ai w W→ah 44 #[.slice (some ⟨g,o,none⟩) N c,.int .i64 p] W (aA (.int .i64 q) W)))
  (b_fn:(h.toList==[102,110])=false) (b_wh:(h.toList==[119,104,105,108,101])=false) (b_fo:(h.toList==[102,111,114])=false) (hv:gd h g (o+p+2) (q-p-3) (c-p-2)=.iface 157 (.agg #[])) (hw:gP h=true) :
  ah 136 #[.slice (some ⟨g,o,none⟩) N c,.int .i64 p,.bool true] w (aA (.tuple #[.slice (some ⟨g,o+p,none⟩) 1 1,.int .i64 ((p+1:Nat):Int)]) w):=by
 have b40:(al.toList==[40])=true:=iJ;have hp1:(p:Int)<(N:Int):=by omega
 have hp2:(p:Int)+1<(N:Int):=by omega
 have e1:((p:Int)+1).toNat=p+1:=by omega
 have e2:(0:Int)≤(p:Int)+1:=by omega
 have e3:(p:Int)+1≤(q:Int):=by omega
 have e4:(q:Int)≤(c:Int):=by omega
 have e5:p+1<c:=by omega
 have e6:p<c:=by omega
 have e7:(p:Int)≤(q:Int):=by omega
 have hcut:Hid (∀W,ah 170 #[.slice (some ⟨g,o,none⟩) N c,.int .i64 p,.int .i64 ((p:Int)+1)] W fun e w'=>e=.returned (.slice (some ⟨g,o+p,none⟩) 1 1)∧w'=W):=fun W=>by
  have:=qj g o N c p (p+1) W (by omega) (by omega);rw[show p+1-p=1 by omega,show((p+1:Nat):Int)=(p:Int)+1 by omega]at this;exact this
 have e8:q-p-3=q-(p+3):=by omega
 have HW:Hid (∀W,ai w W→ah 171 #[.slice (some ⟨g,o+p,none⟩) (q-p) (c-p)] W (aA (.tuple #[.iface 157 (.agg #[]),.bool true]) W)):=fun W hW=>by
  have h1:=pS g (o+p) (q-p) (c-p) h W (Nat.lt_of_lt_of_le hg hW.size) (by rw[Nat.add_assoc];exact(hW.cell (p:=⟨g,o+(p+1),none⟩) hg).trans hh) (by omega) (by omega) (by omega);rw[hv,hw]at h1;exact h1
 go_enter func136,ntmps136;go_wp2_with fail;refine(HI.out _ (Below.refl _ _)).mono ?_;rintro e w1 ⟨rfl,hb1⟩;have hh1:=(hb1.cell (p:=⟨g,o+(p+1),none⟩) hg).trans hh;go_wp2_with fail;refine(HW.out _ hb1).mono ?_;rintro e w2 ⟨rfl,hb2⟩;have hB2:=aw hb1 hb2;go_wp2_with fail;refine(N7 _).mono ?_;rintro e w3 ⟨rfl,hb3⟩;replace hB2:=aw hB2 hb3;go_wp2_with fail;refine(hcut.out _).mono ?_;rintro e w4 ⟨rfl,rfl⟩;go_wp2;go_ret2;exact⟨by first|rfl|(congr 3),hB2⟩
theorem Jz(g o c N p q:Nat)(h:ByteArray)(w:World)(hx:w.cell? ⟨g,o+p,none⟩=some (.string al))(hh:w.cell? ⟨g,o+(p+1),none⟩=some (.string h))(hg:g<w.heap.size)(hpq:p+3≤q)(hq:q≤N)(hN:N≤c)(hc:c≤9223372036854775807)
  (HI:Hid (∀W,ai w W→ah 44 #[.slice (some ⟨g,o,none⟩) N c,.int .i64 p] W (aA (.int .i64 q) W)))
  (b_fn:(h.toList==[102,110])=false) (b_wh:(h.toList==[119,104,105,108,101])=false) (b_fo:(h.toList==[102,111,114])=false) (hv:gd h g (o+p+2) (q-p-3) (c-p-2)=.iface 158 (.agg #[])) (hw:gP h=true) :
  ah 136 #[.slice (some ⟨g,o,none⟩) N c,.int .i64 p,.bool true] w (aA (.tuple #[.slice (some ⟨g,o+p,none⟩) 1 1,.int .i64 ((p+1:Nat):Int)]) w):=by
 have b40:(al.toList==[40])=true:=iJ;have hp1:(p:Int)<(N:Int):=by omega
 have hp2:(p:Int)+1<(N:Int):=by omega
 have e1:((p:Int)+1).toNat=p+1:=by omega
 have e2:(0:Int)≤(p:Int)+1:=by omega
 have e3:(p:Int)+1≤(q:Int):=by omega
 have e4:(q:Int)≤(c:Int):=by omega
 have e5:p+1<c:=by omega
 have e6:p<c:=by omega
 have e7:(p:Int)≤(q:Int):=by omega
 have hcut:Hid (∀W,ah 170 #[.slice (some ⟨g,o,none⟩) N c,.int .i64 p,.int .i64 ((p:Int)+1)] W fun e w'=>e=.returned (.slice (some ⟨g,o+p,none⟩) 1 1)∧w'=W):=fun W=>by
  have:=qj g o N c p (p+1) W (by omega) (by omega);rw[show p+1-p=1 by omega,show((p+1:Nat):Int)=(p:Int)+1 by omega]at this;exact this
 have e8:q-p-3=q-(p+3):=by omega
 have HW:Hid (∀W,ai w W→ah 171 #[.slice (some ⟨g,o+p,none⟩) (q-p) (c-p)] W (aA (.tuple #[.iface 158 (.agg #[]),.bool true]) W)):=fun W hW=>by
  have h1:=pS g (o+p) (q-p) (c-p) h W (Nat.lt_of_lt_of_le hg hW.size) (by rw[Nat.add_assoc];exact(hW.cell (p:=⟨g,o+(p+1),none⟩) hg).trans hh) (by omega) (by omega) (by omega);rw[hv,hw]at h1;exact h1
 go_enter func136,ntmps136;go_wp2_with fail;refine(HI.out _ (Below.refl _ _)).mono ?_;rintro e w1 ⟨rfl,hb1⟩;have hh1:=(hb1.cell (p:=⟨g,o+(p+1),none⟩) hg).trans hh;go_wp2_with fail;refine(HW.out _ hb1).mono ?_;rintro e w2 ⟨rfl,hb2⟩;have hB2:=aw hb1 hb2;go_wp2_with fail;refine(N8 _).mono ?_;rintro e w3 ⟨rfl,hb3⟩;replace hB2:=aw hB2 hb3;go_wp2_with fail;refine(hcut.out _).mono ?_;rintro e w4 ⟨rfl,rfl⟩;go_wp2;go_ret2;exact⟨by first|rfl|(congr 3),hB2⟩
section
variable {w:World} {g o:Nat} {P F R:af} {x y h:ByteArray}
theorem Tx.ON(h:Tx w g o (P++(x::y::R))):w.cell? ⟨g,o+(P.length+1),none⟩=some (.string y):=by
 have h2:Tx w g o ((P++[x])++(y::R)):=by simpa using h
 have:=h2.at;rwa [List.length_append,List.length_singleton]at this
theorem Tx.Pw(h:Tx w g o (P++(x::(F++R)))):Tx w g (o+(P.length+1)) F:=by
 have h2:Tx w g o ((P++[x])++(F++R)):=by simpa using h
 have:=h2.OU;rwa [List.length_append,List.length_singleton]at this
theorem Tx.Px(h:Tx w g o (P++(x::y::(F++R)))):Tx w g (o+P.length+2) F:=by
 have h2:Tx w g o ((P++[x,y])++(F++R)):=by simpa using h
 have:=h2.OU;rw[List.length_append]at this;exact this
theorem Oa(g o n c:Nat)(hh:ae h [98,97,99,107]=true):gd h g o n c=.iface 155 (.agg #[.slice (some ⟨g,o,none⟩) n c])∧gP h=true:=by
 unfold gd gP;rw[hh];exact⟨rfl,rfl⟩
theorem DC(g o n c:Nat)(hh:ae h [108,101,97,118,101]=true):gd h g o n c=.iface 157 (.agg #[])∧gP h=true:=by
 unfold gd gP;rw[aQ hh (by decide),hh];exact⟨rfl,rfl⟩
theorem DE(g o n c:Nat)(hh:ae h [110,101,120,116]=true):gd h g o n c=.iface 158 (.agg #[])∧gP h=true:=by
 unfold gd gP;rw[aQ hh (by decide),aQ hh (by decide),hh];exact⟨rfl,rfl⟩
theorem ID(hh:cJ h=none):ae h [108,101,97,118,101]=false∧ae h [110,101,120,116]=false:=by
 unfold cJ at hh;cases h1:ae h [108,101,97,118,101]
 ·rw[h1]at hh;cases h2:ae h [110,101,120,116]
  ·exact⟨rfl,rfl⟩
  ·rw[h2]at hh;cases hh
 ·rw[h1]at hh;cases hh
theorem Ob(g o n c:Nat)(h1:ae h [98,97,99,107]=false)(hh:cJ h=none):gd h g o n c=.nilIface∧gP h=false:=by
 obtain⟨h2,h3⟩:=ID hh;unfold gd gP;rw[h1,h2,h3];exact⟨rfl,rfl⟩
theorem sZ{t:ByteArray}(hh:cJ h=some t):(ae h [108,101,97,118,101]=true∧t=cl)∨(ae h [110,101,120,116]=true∧t=eR):=by
 unfold cJ at hh;split at hh
 ·rename_i h1;injection hh with hh;exact Or.inl ⟨h1,hh.symm⟩
 ·split at hh
  ·rename_i h1;injection hh with hh;exact Or.inr ⟨h1,hh.symm⟩
  ·cases hh
theorem Iv{B:af}(hI:cS (al::h::B))(hl:fj h=true):0<B.length:=by
 cases B with
 |cons _ _=>simp
 |nil =>
  exfalso;have h1:=hI.2.2 [] [];have e0:([]:af)++([al,h]++[])=[al,h]:=rfl;rw[e0]at h1;have h2:ag [al,h] 0=2:=h1;obtain⟨k,e,_,_,_,h3,h4⟩:=iz (L:=[al,h]) (i:=0) iJ (by rw[h2];decide);have he:e=1:=by omega
  rw[he]at h3;have h5:ae h [41]=true:=h3;unfold fj at hl;rw[aQ h5 (by decide),aQ h5 (by decide)]at hl;cases hl
end
def rR(n:Nat):Prop:=∀(b:Bool) (X Y:af) (g o c:Nat) (W:World),kZ n b X Y→Tx W g o X→X.length≤c→c≤9223372036854775807→(∀s∈X,Gs s)→X.length≤200000→Y.length≤400000 →
 ah 75 #[.slice (some ⟨g,o,none⟩) X.length c,.bool b] W fun e w'=>∃g' n' cp,e=.returned (.slice (some ⟨g',0,none⟩) n' cp)∧aG w' W.heap.size g' n' cp Y∧ai W w'
theorem FQ{n:Nat}(hO:rR n)(b:Bool)(P R S R':af)(g o c:Nat)(w:World)(hS:nr (kZ n) b R S R')(hX:Tx w g o (P++R))(hc1:(P++R).length≤c)(hc:c≤9223372036854775807)(hG:∀s∈P++R,Gs s)(hl:(P++R).length≤200000)(hSl:S.length≤400000) :
  ah 136 #[.slice (some ⟨g,o,none⟩) (P++R).length c,.int .i64 (P.length:Int),.bool b] w fun e w'=>∃F v,R=F++R'∧0<F.length∧e=.returned (.tuple #[v,.int .i64 ((P.length+F.length:Nat):Int)])∧Sl w' v S∧ai w w':=by
 have hg:=hX.1;obtain⟨N,hN⟩:∃N,(P++R).length=N:=⟨_,rfl⟩;have hNl:N=P.length+R.length:=by rw[←hN,List.length_append]
 have hI:∀F Q,R=F++Q→cS F→Hid (∀W,ai w W→ah 44 #[.slice (some ⟨g,o,none⟩) N c,.int .i64 (P.length:Int)] W (aA (.int .i64 ((P.length+F.length:Nat):Int)) W)):=fun F Q hR hF W hW=>by
  have h1:=nO (some ⟨g,o,none⟩) c (P++R) (P.length:Int) W ((hX.call hW).arg hG) (by omega) (FW hG);rw[hN]at h1;have h2:ag (P++R) (P.length:Int)=((P.length+F.length:Nat):Int):=by rw[hR];exact hF.2.2 P Q
  rw[h2]at h1;exact h1
 rw[hN]at hc1 hl ⊢;rcases hS with⟨x,rfl,rfl,hx⟩|⟨B,rfl,rfl,hF⟩|⟨h,B,U,rfl,hF,hlo,hU,rfl⟩|⟨S',rfl,hF,rfl⟩|⟨h,t,rfl,ht,rfl,rfl,hF⟩|⟨h,B,R'',e1,e2,rfl,hF,h1,h2,h3,h4⟩
 ·rw[List.length_cons]at hNl;refine(Jw g o c N P.length x b w hX.at hx (by omega) hc1 hc).mono ?_;rintro e w' ⟨rfl,rfl⟩;exact⟨[x],_,rfl,by simp,rfl,(Tx.OU (F:=[x]) (R:=R') hX).sl (c:=1) (Nat.le_refl _),Below.refl _ _⟩
 ·rw[List.length_append]at hNl;have hpq:P.length+2≤P.length+(al::bG::B).length:=by simp
  refine(Jt g o c N P.length (P.length+(al::bG::B).length) b w (Tx.at (R:=bG::B++R') hX) (Tx.ON (R:=B++R') hX) hg hpq (by omega) hc1 hc (hI _ R' rfl hF)).mono ?_;rintro e w' ⟨rfl,hb⟩;refine⟨al::bG::B,_,rfl,by simp,rfl,?_,hb⟩;have:=((Tx.OU hX).call hb).sl (c:=(al::bG::B).length) (Nat.le_refl _);rwa [Nat.add_sub_cancel_left]
 ·have hB:=Iv hF hlo;have hUl:U.length≤400000:=by rw[List.length_cons]at hSl;omega
  have hfl:(al::h::B).length=B.length+2:=rfl;rw[List.length_append]at hNl;have hHO:Hid (∀W,ai w W→ah 75 #[.slice (some ⟨g,o+(P.length+1),none⟩) (P.length+(al::h::B).length-(P.length+1)) (c-(P.length+1)),.bool true] W fun e w'=>∃g' n' cp,e=.returned (.slice (some ⟨g',0,none⟩) n' cp)∧aG w' W.heap.size g' n' cp U∧ai W w'):=fun W hW=>by
   have hGs:∀s∈h::B,Gs s:=fun s hs=>hG s (List.mem_append_right _ (List.mem_append_left _ (List.mem_cons_of_mem _ hs)))
   have hk:=hO true (h::B) U g (o+(P.length+1)) (c-(P.length+1)) W hU ((Tx.Pw (F:=h::B) (R:=R') hX).call hW) (by simp only[List.length_cons];omega) (by omega) hGs (by simp only[List.length_cons];omega) hUl;rwa [show(h::B).length=P.length+(al::h::B).length-(P.length+1) by simp only[List.length_cons];omega]at hk
  have fin:∀{e:Ending} {w':World},(∃g' n' cp,e=.returned (.tuple #[.slice (some ⟨g',0,none⟩) n' cp,.int .i64 ((P.length+(al::h::B).length:Nat):Int)])∧aG w' w.heap.size g' n' cp [[al],U].flatten∧ai w w')→∃F v,(al::h::B)++R'=F++R'∧0<F.length∧e=.returned (.tuple #[v,.int .i64 ((P.length+F.length:Nat):Int)])∧Sl w' v (al::U)∧ai w w':=by
   rintro e w' ⟨g',n',cp,rfl,hOw,hb⟩;have e3:[[al],U].flatten=al::U:=by simp
   rw[e3]at hOw;exact⟨al::h::B,_,rfl,by simp,rfl,hOw.sl,hb⟩
  unfold fj at hlo;cases hw:ae h [119,104,105,108,101]
  ·rw[hw,Bool.false_or]at hlo;exact(Ju g o c N P.length (P.length+(al::h::B).length) h U b w (Tx.at (R:=h::B++R') hX) (Tx.ON (R:=B++R') hX) hg (by omega) (by omega) hc1 hc (hI _ R' rfl hF) (aQ hlo (by decide)) hw hlo (by omega) hHO).mono fun e w' hh=>fin hh
  ·exact(JD g o c N P.length (P.length+(al::h::B).length) h U b w (Tx.at (R:=h::B++R') hX) (Tx.ON (R:=B++R') hX) hg (by omega) (by omega) hc1 hc (hI _ R' rfl hF) (aQ hw (by decide)) hw (by omega) hHO).mono fun e w' hh=>fin hh
 ·have hbk:ae bm [98,97,99,107]=true:=kr _;have hfl:(al::bm::(S'++[aq])).length=S'.length+3:=by simp
  rw[List.length_append]at hNl;have hX3:Tx w g (o+P.length+2) S':=Tx.Px (x:=al) (y:=bm) (F:=S') (R:=[aq]++R') (by simpa using hX);obtain⟨q1,q2⟩:=Oa g (o+P.length+2) (P.length+(al::bm::(S'++[aq])).length-P.length-3) (c-P.length-2) hbk;refine(JA g o c N P.length (P.length+(al::bm::(S'++[aq])).length) bm w S' hX3 (by omega) (by omega) b (Tx.at (R:=bm::(S'++[aq])++R') hX) (Tx.ON (R:=(S'++[aq])++R') hX) hg (by omega) (by omega) hc1 hc (hI _ R' rfl hF) (aQ hbk (by decide)) (aQ hbk (by decide)) (aQ hbk (by decide)) q1 q2).mono ?_;rintro e w' ⟨g',n',cp,rfl,hOw,hb⟩;have e3:[[al,bm,al,cW,bV],S',[aq,aq]].flatten=al::bm::al::cW::bV::(S'++[aq,aq]):=by simp
  rw[e3]at hOw;exact⟨_,_,rfl,by simp,rfl,hOw.sl,hb⟩
 ·rw[List.length_append]at hNl;have hfl:[al,h,aq].length=3:=rfl;obtain⟨l1,l2,l3,l4,l5⟩:=s5 ht;unfold fj at l3;rw[Bool.or_eq_false_iff]at l3;rcases sZ ht with⟨hh,rfl⟩|⟨hh,rfl⟩
  ·obtain⟨q1,q2⟩:=DC g (o+P.length+2) (P.length+[al,h,aq].length-P.length-3) (c-P.length-2) hh;refine(JB g o c N P.length (P.length+[al,h,aq].length) h w (Tx.at (R:=[h,aq]++R') hX) (Tx.ON (R:=[aq]++R') hX) hg (by omega) (by omega) hc1 hc (hI _ R' rfl hF) l2 l3.1 l3.2 q1 q2).mono ?_;rintro e w' ⟨g',n',cp,rfl,hOw,hb⟩;exact⟨_,_,rfl,by simp,rfl,aG.sl (X:=[al,bm,al,cW,cl,aq,aq]) hOw,hb⟩
  ·obtain⟨q1,q2⟩:=DE g (o+P.length+2) (P.length+[al,h,aq].length-P.length-3) (c-P.length-2) hh;refine(JC g o c N P.length (P.length+[al,h,aq].length) h w (Tx.at (R:=[h,aq]++R') hX) (Tx.ON (R:=[aq]++R') hX) hg (by omega) (by omega) hc1 hc (hI _ R' rfl hF) l2 l3.1 l3.2 q1 q2).mono ?_;rintro e w' ⟨g',n',cp,rfl,hOw,hb⟩;exact⟨_,_,rfl,by simp,rfl,aG.sl (X:=[al,bm,al,cW,eR,aq,aq]) hOw,hb⟩
 ·have hfl:(al::h::(B++[aq])).length=B.length+3:=by simp
  have hRl:R.length=(al::h::(B++[aq])).length+R''.length:=by rw[e2,List.length_append]
  have hat:w.cell? ⟨g,o+P.length,none⟩=some (.string al):=by rw[e1]at hX;exact hX.at
  have hat2:w.cell? ⟨g,o+(P.length+1),none⟩=some (.string h):=by rw[e2]at hX;exact Tx.ON (R:=(B++[aq])++R'') hX
  unfold fj at h2;rw[Bool.or_eq_false_iff]at h2;have fin:∀{e:Ending} {w':World},(e=.returned (.tuple #[.slice (some ⟨g,o+P.length,none⟩) 1 1,.int .i64 ((P.length+1:Nat):Int)])∧ai w w')→∃F v,R=F++R'∧0<F.length∧e=.returned (.tuple #[v,.int .i64 ((P.length+F.length:Nat):Int)])∧Sl w' v [al]∧ai w w':=by
   rintro e w' ⟨rfl,hb⟩;rw[e1]at hX;exact⟨[al],_,e1,by simp,rfl,((Tx.OU (F:=[al]) (R:=R') hX).call hb).sl (c:=1) (Nat.le_refl _),hb⟩
  have hIF:=hI _ R'' e2 hF;cases hlv:cJ h with
  |none =>
   obtain⟨q1,q2⟩:=Ob g (o+P.length+2) (P.length+(al::h::(B++[aq])).length-P.length-3) (c-P.length-2) h3 hlv;exact(Jv g o c N P.length (P.length+(al::h::(B++[aq])).length) h b w hat hat2 hg (by omega) (by omega) hc1 hc hIF h1 h2.1 h2.2 q1 q2).mono fun e w' hh=>fin hh
  |some t =>
   have hbt:b=true:=h4.resolve_left (by rw[hlv];simp);subst hbt;rcases sZ hlv with⟨hh,_⟩|⟨hh,_⟩
   ·obtain⟨q1,q2⟩:=DC g (o+P.length+2) (P.length+(al::h::(B++[aq])).length-P.length-3) (c-P.length-2) hh;exact(Jy g o c N P.length (P.length+(al::h::(B++[aq])).length) h w hat hat2 hg (by omega) (by omega) hc1 hc hIF h1 h2.1 h2.2 q1 q2).mono fun e w' hh=>fin hh
   ·obtain⟨q1,q2⟩:=DE g (o+P.length+2) (P.length+(al::h::(B++[aq])).length-P.length-3) (c-P.length-2) hh;exact(Jz g o c N P.length (P.length+(al::h::(B++[aq])).length) h w hat hat2 hg (by omega) (by omega) hc1 hc hIF h1 h2.1 h2.2 q1 q2).mono fun e w' hh=>fin hh
set_option maxRecDepth 100000 in
theorem Ka{n:Nat}(ih:∀m,m<n→rR m):rR n:=by
 intro b X Y g o c w hOut hX hc1 hc hG hXl hYl;obtain⟨i0,hi,hz0,hz1,hz2⟩:=info_parts Tryz.OJ;obtain⟨N,hN⟩:∃N,X.length=N:=⟨_,rfl⟩;have hg:=hX.1;have HX:=aj hX;have HG:=aj hG;have HN:=aj hN;have HO:=aj hOut;have HF:Hid (∀(m:Nat) (P R S R':af) (W:World),m<n→X=P++R→nr (kZ m) b R S R'→S.length≤400000→ai w W→ah 136 #[.slice (some ⟨g,o,none⟩) N c,.int .i64 (P.length:Int),.bool b] W fun e w'=>∃F v,R=F++R'∧0<F.length∧e=.returned (.tuple #[v,.int .i64 ((P.length+F.length:Nat):Int)])∧Sl w' v S∧ai W w'):=fun m P R S R' W hm hXe hS hSl hW=>by
  have h1:=FQ (ih m hm) b P R S R' g o c W hS (by rw[←hXe];exact hX.call hW) (by rw[←hXe];exact hc1) hc (by rw[←hXe];exact hG) (by rw[←hXe];exact hXl) hSl;rw[←hXe,hN]at h1;exact h1
 rw[hN]at hc1 hXl ⊢;clear hX hG hN hOut ih;have hB0:=ay (Below.refl w.heap.size w) (.cells #[] 9);have hO0:aG (w.alloc (.cells #[] 9)) w.heap.size w.heap.size 0 0 []:=World.ownsRow_made w #[] 0 (Nat.le_refl _) (Nat.zero_le _) rfl;go_enter func75,ntmps75;go_wp2;go_loopw [5,6,7,8] (fun v5 v6 _ _ wr=>∃(m g5 n5 c5 p:Nat) (P R D Z:af),v6=.int .i64 (p:Int)∧v5=.slice (some ⟨g5,0,none⟩) n5 c5∧p≤N∧Hid (m≤n)∧Hid (X=P++R∧P.length=p)∧Hid (kZ m b R Z)∧Hid (D++Z=Y)∧Hid (aG wr w.heap.size g5 n5 c5 D)∧ai w wr) (fun _ v6 _ _ _=>N-(intOf v6).toNat)
 case atStart=>exact⟨n,w.heap.size,0,0,0,[],X,[],Y,rfl,rfl,Nat.zero_le _,Nat.le_refl _,⟨rfl,rfl⟩,HO.out,rfl,hO0,hB0⟩
 case round =>
  clear hO0 hB0;obtain⟨m,g5,n5,c5,p,P,R,D,Z,rfl,rfl,hp,HM,HP,HR,HD,HOw,hB⟩:=hrel;have hRl:P.length+R.length=N:=by
   have:=HN.out;rw[HP.out.1,List.length_append]at this;exact this
  have hPp:=HP.out.2;by_cases hlt:p<N
  ·have hne:R≠[]:=fun e=>by
    rw[e]at hRl;simp at hRl;omega
   cases m with
   |zero=>exact absurd HR.out.1 hne
   |succ m =>
    rcases HR.out with hnil|⟨S,R',Z',hS,hZ,hR'⟩
    ·exact absurd hnil.1 hne
    ·have hSl:S.length≤400000:=by
      have:=congrArg List.length HD.out;rw[hZ]at this;simp only[List.length_append]at this;omega
     have hDl:D.length+S.length≤400000:=by
      have:=congrArg List.length HD.out;rw[hZ]at this;simp only[List.length_append]at this;omega
     have HFx:Hid (∀W,ai w W→ah 136 #[.slice (some ⟨g,o,none⟩) N c,.int .i64 p,.bool b] W fun e w'=>∃F v,R=F++R'∧0<F.length∧e=.returned (.tuple #[v,.int .i64 ((P.length+F.length:Nat):Int)])∧Sl w' v S∧ai W w'):=fun W hW=>by
      have:=HF.out m P R S R' W (by have:=HM.out;omega) HP.out.1 hS hSl hW;rwa [hPp]at this ⊢
     have HD2:Hid ((D++S)++Z'=Y):=by
      show(D++S)++Z'=Y;rw[←HD.out,hZ,List.append_assoc]
     have HR2:=aj hR'
     have HM2:Hid (m≤n):=by have:=HM.out;show m≤n;omega
     clear hS hZ hR' HR HD hne
     have hlt2:(p:Int)<(N:Int):=by omega
     go_wp2_with fail
     refine(HFx.out _ hB).mono ?_
     rintro e w1 ⟨F,v,hRF,hF0,rfl,hv,hb1⟩
     obtain⟨g1,o1,c1,rfl,hg1,_,hcl⟩:=hv
     have hB1:=aw hB hb1
     have HO1:Hid (aG w1 w.heap.size g5 n5 c5 D):=bO HOw.out hb1
     have HP2:Hid (X=(P++F)++R'∧(P++F).length=p+F.length):=⟨by rw[HP.out.1,hRF,List.append_assoc],by rw[List.length_append,hPp]⟩
     have hpF:p+F.length≤N:=by
      rw[hRF,List.length_append]at hRl;omega
     obtain⟨k,hk⟩:∃k,F.length=k:=⟨_,rfl⟩
     rw[hk]at hF0 HP2 hpF
     rw[hPp,hk]
     clear hRF HFx hRl HOw hb1 HP hk
     obtain⟨q,hq⟩:∃q,S.length=q:=⟨_,rfl⟩
     have hadd:∀j,(⟨g1,o1,none⟩:Addr).add j=⟨g1,o1+j,none⟩:=fun j=>by unfold Addr.add;split<;>simp_all
     have hnews:∀j u,(S.map Value.string)[j]?=some u→w1.cell? ((⟨g1,o1,none⟩:Addr).add j)=some u:=fun j u hu=>by
      rw[hadd];rw[List.getElem?_map]at hu;cases hzj:S[j]? with
      |none=>rw[hzj]at hu;cases hu
      |some s =>
       rw[hzj]at hu;simp at hu;subst hu;obtain⟨hl,hs⟩:=List.getElem?_eq_some_iff.1 hzj;rw[←hs];exact hcl j hl
     have hln:(S.map Value.string).length=q*1:=by rw[List.length_map,hq];omega
     have hone:∀u∈S.map Value.string,u.oneCell'=true:=fun u hu=>by
      obtain⟨s,_,rfl⟩:=List.mem_map.mp hu;rfl
     have hn5:n5=D.length:=by have:=HO1.out.1;simpa using this.symm
     have hq2:n5+q≤400000:=by omega
     have hb1:n5+q≤maxLen:=by unfold maxLen;omega
     have hb2:(n5+q)*16≤140737488355328:=by omega
     have hbz:=hB1.size
     rw[hq]
     clear hcl hDl hSl hq hn5 hadd
     go_wp2_with (at_builtin;refine wpList_append_own _ rfl _ _ 22 rfl w.heap.size 9 i0 (.string ⟨#[]⟩) 1 16 Tryz.underlying22 hi hz0 hz1 hz2 rfl (by decide) _ _ _ rfl HO1.out ⟨g1,o1,none⟩ q c1 (S.map Value.string) rfl hln hnews hone hb1 hb2 hbz ?_)
     intro v' w5 hown' hgrow hnil
     have hB5:ai w w5:=hB1.grown hgrow hB1.size (fun k hk=>(World.ownsRow.lt HO1.out k hk).1)
     have hsh:∃g5 c5,v'=.slice (some ⟨g5,0,none⟩) (n5+q) c5:=by
      rcases hown'.2 with⟨hv,_⟩|⟨g5,c5,cur,hv,_⟩
      ·exact(hnil hv).elim
      ·exact⟨g5,c5,hv⟩
     obtain⟨g6,c6,rfl⟩:=hsh
     have HO5:Hid (aG w5 w.heap.size g6 (n5+q) c6 (D++S)):=by
      show w5.ownsRow w.heap.size 9 1 (.slice (some ⟨g6,0,none⟩) (n5+q) c6) (n5+q) ((D++S).map Value.string);rw[List.map_append];exact hown'
     clear hown' hgrow hnil hone hln hnews HO1
     go_wp2
     go_roundw
     case rel=>exact⟨m,g6,n5+q,c6,p+k,P++F,R',D++S,Z',rfl,rfl,hpF,HM2.out,HP2.out,HR2.out,HD2.out,HO5.out,hB5⟩
     case measure=>simp[intOf];omega
  ·have hRn:R=[]:=List.eq_nil_of_length_eq_zero (by omega);have hZn:Z=[]:=by
    have h1:=HR.out;cases m with
    |zero=>exact h1.2
    |succ m =>
     rcases h1 with h1|⟨S,R',Z',hS,_,_⟩
     ·exact h1.2
     ·exfalso;rw[hRn]at hS;rcases hS with⟨x,e,_⟩|⟨B,e,_⟩|⟨h,B,U,e,_⟩|⟨S',e,_⟩|⟨h,t,e,_⟩|⟨h,B,R'',e,_⟩
      all_goals simp at e
   have HE:Hid (aG wr w.heap.size g5 n5 c5 Y):=by
    show aG wr w.heap.size g5 n5 c5 Y;have e:Y=D:=by rw[←HD.out,hZn,List.append_nil]
    rw[e];exact HOw.out
   have hlt2:¬(p:Int)<(N:Int):=by omega
   clear hRn hZn HR HD HOw HP;go_wp2;go_ret;exact⟨g5,n5,c5,rfl,HE.out,hB⟩
theorem J9(n:Nat):rR n:=by
 induction n using Nat.strongRecOn with
 |_ n ih=>exact Ka ih
theorem yD:∀(X:List Int) (x:Int),X.Pairwise (·<·)→∀h (hh:h<X.length),X[h]<x↔h<aX X x
 |[],_,_,h,hh=>absurd hh (Nat.not_lt_zero _)
 |y::X,x,hR,h,hh=>by
  obtain⟨r1,r2⟩:=List.pairwise_cons.1 hR;have ih:=yD X x r2;by_cases hy:y<x
  ·have e:aX (y::X) x=aX X x+1:=by
    unfold aX;rw[List.filter_cons,if_pos (by simpa using hy)];rfl
   rw[e]
   cases h with
   |zero=>exact⟨fun _=>by omega,fun _=>hy⟩
   |succ h =>
    have:=ih h (by simpa using hh);rw[List.getElem_cons_succ,this];omega
  ·have e:aX (y::X) x=0:=by
    unfold aX;rw[List.length_eq_zero_iff,List.filter_eq_nil_iff];intro z hz;rcases List.mem_cons.mp hz with rfl|hz
    ·simpa using hy
    ·have:=r1 z hz;simp;omega
   rw[e]
   refine⟨fun hlt=>?_,fun hh'=>absurd hh' (Nat.not_lt_zero _)⟩
   cases h with
   |zero=>exact absurd hlt hy
   |succ h =>
    have hx':h<X.length:=by simpa using hh
    have:=r1 X[h] (List.getElem_mem hx');rw[List.getElem_cons_succ]at hlt;omega
theorem Et(X:List Int)(x:Int):aX X x≤X.length:=List.length_filter_le _ _
theorem Es(X:List Int)(x:Int)(hR:X.Pairwise (·<·)):(X.any fun y=>x==y)=true↔∃h:aX X x<X.length,X[aX X x]=x:=by
 constructor
 ·intro h;rw[List.any_eq_true]at h;obtain⟨y,hy,e⟩:=h;rw[beq_iff_eq]at e;subst e;have h1:=uy X x hR hy;exact List.getElem?_eq_some_iff.1 h1
 ·rintro⟨h,e⟩;rw[List.any_eq_true];exact⟨X[aX X x],List.getElem_mem h,by rw[e];simp⟩
theorem GC(x:Int)(w:World):ah 135 #[.int .i64 x] w (aA (.bool false) w):=by
 go_enter func135,ntmps135;go_wp2;go_ret;exact⟨by first|rfl|simp,by go_grown⟩
theorem GD(x:Int)(w:World):ah 74 #[.int .i64 x] w (aA (.bool false) w):=by
 go_enter func74,ntmps74;go_wp2;go_ret;exact⟨by first|rfl|simp,by go_grown⟩
theorem yC(x y:Int)(w:World):ah 73 #[.int .i64 x,.int .i64 y] w (aA (.bool (decide (x<y))) w):=by
 by_cases h:x<y
 all_goals
  go_enter func73,ntmps73
  go_wp2_with fail
  refine(GC x _).mono ?_
  rintro e w1 ⟨rfl,hb1⟩
  go_wp2
  go_ret
  exact⟨by first|rfl|simp[h],hb1⟩
set_option maxRecDepth 100000 in
theorem LX(a:Option Addr)(c:Nat)(X:List Int)(x:Int)(w:World)(h:kB w a X)(hl:X.length≤5000)(hR:X.Pairwise (·<·)) :
  ah 42 #[.slice a X.length c,.int .i64 x] w (aA (.tuple #[.int .i64 (aX X x:Int),.bool (X.any fun y=>x==y)]) w):=by
 obtain⟨k,hk⟩:∃k,aX X x=k:=⟨_,rfl⟩;obtain⟨T,hT⟩:∃T,(X.any fun y=>x==y)=T:=⟨_,rfl⟩;have hkl:k≤X.length:=by rw[←hk];exact Et X x
 have HL:Hid (∀h (hh:h<X.length),X[h]<x↔h<k):=fun h hh=>by rw[←hk];exact yD X x hR h hh
 have HT:Hid (T=true↔∃h:k<X.length,X[k]=x):=by
  show T=true↔∃h:k<X.length,X[k]=x;subst hk;rw[←hT];exact Es X x hR
 rw[hk,hT];obtain⟨n,hn⟩:∃n,X.length=n:=⟨_,rfl⟩;have HN:=aj hn;rw[hn]at hkl hl ⊢;clear hk hT hR hn;go_enter func42,ntmps42;go_wp2;go_loopw [7,8] (fun s7 s8 wr=>∃lo hi:Nat,s7=.int .i64 (lo:Int)∧s8=.int .i64 (hi:Int)∧lo≤k∧k≤hi∧hi≤n∧ai w wr) (fun s7 s8 _=>(intOf s8).toNat-(intOf s7).toNat)
 case atStart=>exact⟨0,n,rfl,rfl,Nat.zero_le _,hkl,Nat.le_refl _,Below.refl _ _⟩
 case round =>
  obtain⟨lo,hi,rfl,rfl,hlo,hhi,hin,hB⟩:=hrel;by_cases hlt:lo<hi
  ·have hm:(lo+hi)/2<X.length:=by rw[HN.out];omega
   obtain⟨g,o,rfl,hg,hcell⟩:=h.call hB ((lo+hi)/2) hm;have hlt2:=HL.out ((lo+hi)/2) hm;obtain⟨y,hy⟩:∃y,X[(lo+hi)/2]=y:=⟨_,rfl⟩;rw[hy]at hcell hlt2;clear hy;by_cases hyx:y<x
   ·have hm2:(lo+hi)/2<k:=hlt2.mp hyx;clear hlt2;go_wp2_with fail;refine(yC y x _).mono ?_;rintro e w2 ⟨rfl,hb2⟩;have hB2:=aw hB hb2;go_wp2;go_roundw
    case rel=>exact⟨(lo+hi)/2+1,hi,by rw[show((lo:Int)+(hi:Int))/2+1=(((lo+hi)/2+1:Nat):Int) by omega],rfl,by omega,by omega,by omega,hB2⟩
    case measure=>simp[intOf];omega
   ·have hm2:k≤(lo+hi)/2:=by
     by_cases hc:(lo+hi)/2<k
     ·exact absurd (hlt2.mpr hc) hyx
     ·omega
    clear hlt2
    go_wp2_with fail
    refine(yC y x _).mono ?_
    rintro e w2 ⟨rfl,hb2⟩
    have hB2:=aw hB hb2
    go_wp2
    go_roundw
    case rel=>exact⟨lo,(lo+hi)/2,rfl,by rw[show((lo:Int)+(hi:Int))/2=(((lo+hi)/2:Nat):Int) by omega],by omega,by omega,by omega,hB2⟩
    case measure=>simp[intOf];omega
  ·obtain rfl:lo=k:=by omega
   obtain rfl:hi=lo:=by omega
   by_cases hkn:hi<n
   ·have hkx:hi<X.length:=by rw[HN.out];exact hkn
    obtain⟨g,o,rfl,hg,hcell⟩:=h.call hB hi hkx;obtain⟨y,hy⟩:∃y,X[hi]=y:=⟨_,rfl⟩;have HT2:Hid (T=true↔y=x):=by
     show T=true↔y=x;rw[HT.out];exact⟨fun ⟨_,e⟩=>hy▸e,fun e=>⟨hkx,hy.trans e⟩⟩
    rw[hy]at hcell;clear hy HT HL;by_cases hyx:y=x
    ·subst hyx;have HE:Hid (T=true):=HT2.out.mpr rfl;clear HT2;go_wp2;go_ret2;exact⟨by rw[HE.out];first|rfl|simp,hB⟩
    ·have HE:Hid (T=false):=by
      show T=false;cases hq:T
      ·rfl
      ·exact absurd (HT2.out.mp hq) hyx
     clear HT2
     go_wp2_with (first|(go_at_call 74;refine(GD _ _).mono ?_;rintro e w2 ⟨rfl,hb2⟩))
     go_ret2
     exact⟨by rw[HE.out];first|rfl|simp[hyx],aw hB hb2⟩
   ·have HE:Hid (T=false):=by
     show T=false;cases hq:T
     ·rfl
     ·obtain⟨hc,_⟩:=HT.out.mp hq;rw[HN.out]at hc;omega
    clear HT HL
    go_wp2
    go_ret2
    exact⟨by rw[HE.out];first|rfl|simp[hkn],hB⟩
end Go.Proofs.YtdojfommmpnbgaaGreatDoor
namespace Go.Proofs.YtdojfommmpnbgaaGreatDoor
open Go.RowKit
section
variable {L:af} {D:Int→Bool} {fr:Int→ByteArray} {i j e x q k t:Int}
variable (hp:aR L=true) (hDo:∀ i,D i=true→bU L i=true)
include hp hDo
theorem pR:∀n m i,(ag L i-i).toNat≤n→0≤ag L i→(m=0∨Kk L i)→vF L D fr (n+1) m i=vF L D fr n m i
 |0,m,i,hn,h0,_=>by have:=cZ h0;omega
 |n+1,m,i,hn,h0,hk=>by
  have hu:=cZ h0;cases ho:ae (aa L i) [40]
  ·rw[jo ho,jo ho]
  ·cases hD:D i
   ·obtain⟨c,e,hc,he0,hel,he,hit⟩:=iz ho h0;have hform:vF L D fr (n+1+1) m i=al::((aT L (i+1)).flatMap (vF L D fr (n+1) (ep L m i))++[aq])→vF L D fr (n+1) m i=al::((aT L (i+1)).flatMap (vF L D fr n (ep L m i))++[aq])→vF L D fr (n+1+1) m i=vF L D fr (n+1) m i:=fun h1 h2=>by
     have hce:=bK c _ hc he0;rw[h1,h2,ly hc he0 (by omega) (bP he)];congr 2;refine oU _ _ _ fun k hkm=>?_
     obtain⟨d1,d2,d3,d4⟩:=fQ c _ hc he0 k hkm;refine pR n _ k (by omega) d3 ?_;by_cases hz:ep L m i=0
     ·exact Or.inl hz
     ·right;unfold ep at hz;split at hz
      ·exact absurd rfl hz
      ·rename_i hz2;obtain⟨_,_,_,_,hh⟩:=vD (hk.resolve_left fun h=>hz2 (Or.inl h)) ho (by cases hq:dt L i;rfl;exact absurd (Or.inr hq) hz2) hc he0 hit he;exact hh k hkm
    by_cases hb:m≠0∧ae (aa L (i+1)) [98,97,99,107]=true
    ·obtain⟨b1,b2,b3,b4,b5⟩:=vC (hk.resolve_left hb.1) ho hb.2;have hu2:=cZ b1;rw[tU ho hD hb.1 hb.2,tU ho hD hb.1 hb.2,pR n 0 (i+2) (by omega) b1 (Or.inl rfl)]
    ·have hb':m=0∨ae (aa L (i+1)) [98,97,99,107]=false:=by
      by_cases hz:m=0
      ·exact Or.inl hz
      ·right;cases hq:ae (aa L (i+1)) [98,97,99,107]
       ·rfl
       ·exact absurd ⟨hz,hq⟩ hb
     by_cases hl:m=1∧∃t,cJ (aa L (i+1))=some t
     ·obtain⟨rfl,t,hl⟩:=hl;rw[tV ho hD hl,tV ho hD hl]
     ·have hl2:m≠1∨cJ (aa L (i+1))=none:=by
       by_cases hz:m=1
       ·right;cases hq:cJ (aa L (i+1))with
        |none=>rfl
        |some t=>exact absurd ⟨hz,t,hq⟩ hl
       ·exact Or.inl hz
      exact hform (kV ho hD hb' hl2) (kV ho hD hb' hl2)
   ·have hd:=hDo i hD;have hv:aH L i:=Or.inr (mg hp (mA (eM hd).2 (by decide)));obtain⟨k,e,q1d,q2,q3⟩:=hv.OK ho (eM hd).2;have hse:=dH q2;obtain⟨q1,hdl⟩:=eK k _ q1d;have hce:=eX k _ q1 hse.1;rw[pQ ho hD,pQ ho hD,ef q1 hse.1 (by omega) (bP q2)];congr 1;refine oU _ _ _ fun p hpm=>?_
    obtain⟨d1,d2,d3,d4⟩:=jz k _ q1 hse.1 p hpm;exact pR n 1 p (by omega) (by have:=d3.ends;omega) (Or.inr (mH d3))
theorem Dt(n d m:Nat)(i:Int)(hn:(ag L i-i).toNat≤n)(h0:0≤ag L i)(hk:m=0∨Kk L i):vF L D fr (n+d) m i=vF L D fr n m i:=by
 induction d with
 |zero=>rfl
 |succ d ih =>
  rw[←ih];exact pR hp hDo (n+d) m i (by omega) h0 hk
omit hp hDo
def uf(L:af)(D:Int→Bool)(W:Int→af):Nat→Int→Int→af→Prop
 |0,p,t,Z=>p=t∧Z=[]
 |n+1,p,t,Z=>(p=t∧Z=[])∨(p<t∧((D p=true∧∃Z',Z=W p++Z'∧uf L D W n (ag L p) t Z')∨(D p=false∧∃Z',Z=aa L p::Z'∧uf L D W n (p+1) t Z')))
def Sy(L:af)(D:Int→Bool)(W:Int→af)(p t:Int)(Z:af):Prop:=∃n,uf L D W n p t Z
variable {W:Int→af}
theorem Nc:Sy L D W t t []:=⟨0,rfl,rfl⟩
theorem xp{Z:af}(hpt:q<t)(hD:D q=false)(h:Sy L D W (q+1) t Z):Sy L D W q t (aa L q::Z):=by
 obtain⟨n,h⟩:=h;exact⟨n+1,Or.inr ⟨hpt,Or.inr ⟨hD,Z,rfl,h⟩⟩⟩
theorem Nb{Z:af}(hpt:q<t)(hD:D q=true)(h:Sy L D W (ag L q) t Z):Sy L D W q t (W q++Z):=by
 obtain⟨n,h⟩:=h;exact⟨n+1,Or.inr ⟨hpt,Or.inl ⟨hD,Z,rfl,h⟩⟩⟩
include hDo
theorem Dk(hW:∀n i,D i=true→(ag L i-i).toNat≤n→0≤ag L i→vF L D fr n 0 i=W i):∀n i Z,(ag L i-i).toNat≤n→0≤ag L i→ag L i≤t→Sy L D W (ag L i) t Z→Sy L D W i t (vF L D fr n 0 i++Z)
 |0,i,Z,hn,h0,_,_=>by have:=cZ h0;omega
 |n+1,i,Z,hn,h0,ht,hZ=>by
  have hu:=cZ h0;have hno:∀p,ae (aa L p) [40]=false→D p=false:=fun p hp=>by
   cases hc:D p
   ·rfl
   ·rw[(eM (hDo p hc)).1]at hp;cases hp
  cases ho:ae (aa L i) [40]
  ·rw[jo ho];rw[mG h0 ho]at hZ;exact xp (by omega) (hno i ho) hZ
  ·cases hD:D i
   ·obtain⟨c,e,hc,he0,hel,he,hit⟩:=iz ho h0;have hce:=bK c _ hc he0;rw[kV ho hD (Or.inl rfl) (Or.inl (by decide)),ly hc he0 (by omega) (bP he)];have hmd:ep L 0 i=0:=rfl;rw[hmd,List.cons_append,List.append_assoc,show al=aa L i from(aZ ho).symm];refine xp (by omega) hD ?_;have hend:Sy L D W e t ([aq]++Z):=by
     rw[show([aq]:af)=[aa L e] by rw[aZ he];rfl];exact xp (by omega) (hno e (aQ he (by decide))) (by rw[←hit];exact hZ)
    have key:∀m a,bd L m a e→i+1≤a→Sy L D W a t ((ar L m a).flatMap (vF L D fr n 0)++([aq]++Z)):=fun m=>by
     induction m with
     |zero =>
      intro a ha _;have:a=e:=ha;rw[this];exact hend
     |succ m ih =>
      intro a ha hia;have h1:=cZ ha.1;have h2:=bK m _ ha.2 he0;have e1:(ar L (m+1) a).flatMap (vF L D fr n 0)=vF L D fr n 0 a++(ar L m (ag L a)).flatMap (vF L D fr n 0):=rfl;rw[e1,List.append_assoc];exact Dk hW n a _ (by omega) ha.1 (by omega) (ih _ ha.2 (by omega))
    exact key c _ hc (Int.le_refl _)
   ·rw[hW (n+1) i hD hn h0];exact Nb (by omega) hD hZ
theorem Dj(hW:∀n i,D i=true→(ag L i-i).toNat≤n→0≤ag L i→vF L D fr n 0 i=W i)(n:Nat):∀m a,bd L m a t→0≤t→(∀k∈ar L m a,(ag L k-k).toNat≤n)→Sy L D W a t ((ar L m a).flatMap (vF L D fr n 0))
 |0,a,h,_,_=>by
  have:a=t:=h;rw[this];exact Nc
 |m+1,a,h,he,hk=>by
  have h2:=bK m _ h.2 he;exact Dk hDo hW n a _ (hk a (List.mem_cons_self ..)) h.1 (by omega) (Dj hW n m _ h.2 he fun k hkm=>hk k (List.mem_cons_of_mem _ hkm))
end
theorem Oq(f:ByteArray)(U:af):[[al,bx,al,fV,f,al,eJ,al,bG,al,aq],U,[aq,aq,aq],[al,cF,al,cA,f,gZ,aq,al,bx,aq],pC f [al,dY,f,bV,aq],[aq,aq]].flatten=jL 0 f U:=by
 simp[jL,lG,iH,dT,fg,jC,bg,pC,pD,n8]
end Go.Proofs.YtdojfommmpnbgaaGreatDoor
