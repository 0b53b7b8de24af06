import Derived.Test.YtdojfommmpnbgaaGreatDoorKBU
set_option maxHeartbeats 2000000
namespace Go.Proofs.YtdojfommmpnbgaaGreatDoor
open Go.RowKit Go.Proofs.Tryz
theorem Jw(g o c N p:Nat)(x:ByteArray)(b:Bool)(w:World)(hx:w.cell? ⟨g,o+p,none⟩=some (.string x))(h40:ae x [40]=false)(hp:p<N)(hN:N≤c)(hc:c≤9223372036854775807) :
  ah 136 #[.slice (some ⟨g,o,none⟩) N c,.int .i64 p,.bool b] w fun e w'=>e=.returned (.tuple #[.slice (some ⟨g,o+p,none⟩) 1 1,.int .i64 ((p+1:Nat):Int)])∧w'=w:=by
 have b40:(x.toList==[40])=false:=h40;have hcut:Hid (ah 170 #[.slice (some ⟨g,o,none⟩) N c,.int .i64 p,.int .i64 ((p:Int)+1)] w fun e w'=>e=.returned (.slice (some ⟨g,o+p,none⟩) 1 1)∧w'=w):=by
  have:=qj g o N c p (p+1) w (by omega) (by omega);rw[show p+1-p=1 by omega,show((p+1:Nat):Int)=(p:Int)+1 by omega]at this;exact this
 go_enter func136,ntmps136;go_wp2_with fail;refine hcut.out.mono ?_;rintro e w1 ⟨rfl,rfl⟩;go_wp2;go_ret2;exact⟨by first|rfl|(congr 3),rfl⟩
theorem Jt(g o c N p q:Nat)(b:Bool)(w:World)(hx:w.cell? ⟨g,o+p,none⟩=some (.string al))(hh:w.cell? ⟨g,o+(p+1),none⟩=some (.string bG))(hg:g<w.heap.size)(hpq:p+2≤q)(hq:q≤N)(hN:N≤c)(hc:c≤9223372036854775807)
  (HI:Hid (∀W,ai w W→ah 44 #[.slice (some ⟨g,o,none⟩) N c,.int .i64 p] W (aA (.int .i64 q) W))) :
  ah 136 #[.slice (some ⟨g,o,none⟩) N c,.int .i64 p,.bool b] w (aA (.tuple #[.slice (some ⟨g,o+p,none⟩) (q-p) (q-p),.int .i64 q]) w):=by
 have b40:(al.toList==[40])=true:=iJ;have bfn:(bG.toList==[102,110])=true:=kr [102,110];have hp1:(p:Int)<(N:Int):=by omega
 have hp2:(p:Int)+1<(N:Int):=by omega
 have e1:((p:Int)+1).toNat=p+1:=by omega
 have e2:(0:Int)≤(p:Int)+1:=by omega
 go_enter func136,ntmps136;go_wp2_with fail;refine(HI.out _ (Below.refl _ _)).mono ?_;rintro e w1 ⟨rfl,hb1⟩;have hh1:=(hb1.cell (p:=⟨g,o+(p+1),none⟩) hg).trans hh;go_wp2_with fail;refine(qj g o N c p q _ (by omega) (by omega)).mono ?_;rintro e w2 ⟨rfl,rfl⟩;go_wp2;go_ret2;exact⟨rfl,hb1⟩
theorem JD(g o c N p q:Nat)(h:ByteArray)(U:af)(b:Bool)(w:World)(hx:w.cell? ⟨g,o+p,none⟩=some (.string al))(hh:w.cell? ⟨g,o+(p+1),none⟩=some (.string h))(hg:g<w.heap.size)(hpq:p+3≤q)(hq:q≤N)(hN:N≤c)(hc:c≤9223372036854775807)
  (HI:Hid (∀W,ai w W→ah 44 #[.slice (some ⟨g,o,none⟩) N c,.int .i64 p] W (aA (.int .i64 q) W)))
  (b_fn:(h.toList==[102,110])=false) (b_wh:(h.toList==[119,104,105,108,101])=true) (hU:U.length≤500000) (HO:Hid (∀W,ai w W→ah 75 #[.slice (some ⟨g,o+(p+1),none⟩) (q-(p+1)) (c-(p+1)),.bool true] W fun e w'=>∃g' n' cp,e=.returned (.slice (some ⟨g',0,none⟩) n' cp)∧aG w' W.heap.size g' n' cp U∧ai W w')) :
  ah 136 #[.slice (some ⟨g,o,none⟩) N c,.int .i64 p,.bool b] w fun e w'=>∃g' n' cp,e=.returned (.tuple #[.slice (some ⟨g',0,none⟩) n' cp,.int .i64 q])∧aG w' w.heap.size g' n' cp [[al],U].flatten∧ai w w':=by
 have b40:(al.toList==[40])=true:=iJ;have hp1:(p:Int)<(N:Int):=by omega
 have hp2:(p:Int)+1<(N:Int):=by omega
 have e1:((p:Int)+1).toNat=p+1:=by omega
 have e2:(0:Int)≤(p:Int)+1:=by omega
 have e3:(p:Int)+1≤(q:Int):=by omega
 have e4:(q:Int)≤(c:Int):=by omega
 have e5:p+1<c:=by omega
 have e6:p<c:=by omega
 have e7:(p:Int)≤(q:Int):=by omega
 go_enter func136,ntmps136;go_wp2_with fail;refine(HI.out _ (Below.refl _ _)).mono ?_;rintro e w1 ⟨rfl,hb1⟩;have hh1:=(hb1.cell (p:=⟨g,o+(p+1),none⟩) hg).trans hh;have hbA:=ay (Below.refl w1.heap.size w1) (.cells #[.string ⟨#[40]⟩] 9);have hA:=dM w1 [al] 9;go_wp2_with fail;refine(HO.out _ (aw hb1 hbA)).mono ?_;rintro e w2 ⟨g2,n2,c2,rfl,hO2,hb2⟩;have HC:=kH w2 [.slice (some ⟨w1.heap.size,0,none⟩) 1 1,.slice (some ⟨g2,0,none⟩) n2 c2] [[al],U] rfl (fun i _ h'=>by
  match i,h' with
  |0,_=>exact Sl.call hA hb2
  |1,_=>exact aG.sl hO2) (by simp) (fun _=>by simp) (by simp) (by simp[eB];omega)
 have hB2:=aw (aw hb1 hbA) hb2;have hz:=hB2.size;clear hA hO2 hb1 hb2 hbA hh1;go_wp2_with fail;refine HC.mono ?_;rintro e w3 ⟨g3,n3,c3,rfl,hO,hb3⟩;go_wp2;go_ret2;exact⟨g3,n3,c3,rfl,dW hO hz,aw hB2 hb3⟩
theorem Ju(g o c N p q:Nat)(h:ByteArray)(U:af)(b:Bool)(w:World)(hx:w.cell? ⟨g,o+p,none⟩=some (.string al))(hh:w.cell? ⟨g,o+(p+1),none⟩=some (.string h))(hg:g<w.heap.size)(hpq:p+3≤q)(hq:q≤N)(hN:N≤c)(hc:c≤9223372036854775807)
  (HI:Hid (∀W,ai w W→ah 44 #[.slice (some ⟨g,o,none⟩) N c,.int .i64 p] W (aA (.int .i64 q) W)))
  (b_fn:(h.toList==[102,110])=false) (b_wh:(h.toList==[119,104,105,108,101])=false) (b_fo:(h.toList==[102,111,114])=true) (hU:U.length≤500000) (HO:Hid (∀W,ai w W→ah 75 #[.slice (some ⟨g,o+(p+1),none⟩) (q-(p+1)) (c-(p+1)),.bool true] W fun e w'=>∃g' n' cp,e=.returned (.slice (some ⟨g',0,none⟩) n' cp)∧aG w' W.heap.size g' n' cp U∧ai W w')) :
  ah 136 #[.slice (some ⟨g,o,none⟩) N c,.int .i64 p,.bool b] w fun e w'=>∃g' n' cp,e=.returned (.tuple #[.slice (some ⟨g',0,none⟩) n' cp,.int .i64 q])∧aG w' w.heap.size g' n' cp [[al],U].flatten∧ai w w':=by
 have b40:(al.toList==[40])=true:=iJ;have hp1:(p:Int)<(N:Int):=by omega
 have hp2:(p:Int)+1<(N:Int):=by omega
 have e1:((p:Int)+1).toNat=p+1:=by omega
 have e2:(0:Int)≤(p:Int)+1:=by omega
 have e3:(p:Int)+1≤(q:Int):=by omega
 have e4:(q:Int)≤(c:Int):=by omega
 have e5:p+1<c:=by omega
 have e6:p<c:=by omega
 have e7:(p:Int)≤(q:Int):=by omega
 go_enter func136,ntmps136;go_wp2_with fail;refine(HI.out _ (Below.refl _ _)).mono ?_;rintro e w1 ⟨rfl,hb1⟩;have hh1:=(hb1.cell (p:=⟨g,o+(p+1),none⟩) hg).trans hh;have hbA:=ay (Below.refl w1.heap.size w1) (.cells #[.string ⟨#[40]⟩] 9);have hA:=dM w1 [al] 9;go_wp2_with fail;refine(HO.out _ (aw hb1 hbA)).mono ?_;rintro e w2 ⟨g2,n2,c2,rfl,hO2,hb2⟩;have HC:=kH w2 [.slice (some ⟨w1.heap.size,0,none⟩) 1 1,.slice (some ⟨g2,0,none⟩) n2 c2] [[al],U] rfl (fun i _ h'=>by
  match i,h' with
  |0,_=>exact Sl.call hA hb2
  |1,_=>exact aG.sl hO2) (by simp) (fun _=>by simp) (by simp) (by simp[eB];omega)
 have hB2:=aw (aw hb1 hbA) hb2;have hz:=hB2.size;clear hA hO2 hb1 hb2 hbA hh1;go_wp2_with fail;refine HC.mono ?_;rintro e w3 ⟨g3,n3,c3,rfl,hO,hb3⟩;go_wp2;go_ret2;exact⟨g3,n3,c3,rfl,dW hO hz,aw hB2 hb3⟩
theorem JA(g o c N p q:Nat)(h:ByteArray)(w:World)(X:af)(hX:Tx w g (o+p+2) X)(hXl:X.length=q-p-3)(hXb:X.length≤500000)(b:Bool)(hx:w.cell? ⟨g,o+p,none⟩=some (.string al))(hh:w.cell? ⟨g,o+(p+1),none⟩=some (.string h))(hg:g<w.heap.size)(hpq:p+3≤q)(hq:q≤N)(hN:N≤c)(hc:c≤9223372036854775807)
  (HI:Hid (∀W,ai w W→ah 44 #[.slice (some ⟨g,o,none⟩) N c,.int .i64 p] W (aA (.int .i64 q) W)))
  (b_fn:(h.toList==[102,110])=false) (b_wh:(h.toList==[119,104,105,108,101])=false) (b_fo:(h.toList==[102,111,114])=false) (hv:gd h g (o+p+2) (q-p-3) (c-p-2)=.iface 155 (.agg #[.slice (some ⟨g,o+p+2,none⟩) (q-p-3) (c-p-2)])) (hw:gP h=true) :
  ah 136 #[.slice (some ⟨g,o,none⟩) N c,.int .i64 p,.bool b] w fun e w'=>∃g' n' cp,e=.returned (.tuple #[.slice (some ⟨g',0,none⟩) n' cp,.int .i64 q])∧aG w' w.heap.size g' n' cp [[al,bm,al,cW,bV],X,[aq,aq]].flatten∧ai w w':=by
 have b40:(al.toList==[40])=true:=iJ;have hp1:(p:Int)<(N:Int):=by omega
 have hp2:(p:Int)+1<(N:Int):=by omega
 have e1:((p:Int)+1).toNat=p+1:=by omega
 have e2:(0:Int)≤(p:Int)+1:=by omega
 have e3:(p:Int)+1≤(q:Int):=by omega
 have e4:(q:Int)≤(c:Int):=by omega
 have e5:p+1<c:=by omega
 have e6:p<c:=by omega
 have e7:(p:Int)≤(q:Int):=by omega
 have e8:q-p-3=q-(p+3):=by omega
 have HW:Hid (∀W,ai w W→ah 171 #[.slice (some ⟨g,o+p,none⟩) (q-p) (c-p)] W (aA (.tuple #[.iface 155 (.agg #[.slice (some ⟨g,o+p+2,none⟩) (q-p-3) (c-p-2)]),.bool true]) W)):=fun W hW=>by
  have h1:=pS g (o+p) (q-p) (c-p) h W (Nat.lt_of_lt_of_le hg hW.size) (by rw[Nat.add_assoc];exact(hW.cell (p:=⟨g,o+(p+1),none⟩) hg).trans hh) (by omega) (by omega) (by omega);rw[hv,hw]at h1;exact h1
 go_enter func136,ntmps136;go_wp2_with fail;refine(HI.out _ (Below.refl _ _)).mono ?_;rintro e w1 ⟨rfl,hb1⟩;have hh1:=(hb1.cell (p:=⟨g,o+(p+1),none⟩) hg).trans hh;go_wp2_with fail;refine(HW.out _ hb1).mono ?_;rintro e w2 ⟨rfl,hb2⟩;have hB2:=aw hb1 hb2;cases b
 ·go_wp2_with fail;have hS:=((hX.call hb1).call hb2).sl (c:=c-p-2) (by omega);rw[hXl]at hS;refine(ye _ X _ hS hXb).mono ?_;rintro e w4 ⟨g4,n4,c4,rfl,hO,hb4⟩;go_wp2;go_ret2;exact⟨g4,n4,c4,rfl,dW hO hB2.size,aw hB2 hb4⟩
 ·go_wp2_with fail;refine(N6 _ _).mono ?_;rintro e w3 ⟨rfl,hb3⟩;have hB3:=aw hB2 hb3;go_wp2_with fail;have hS:=(((hX.call hb1).call hb2).call hb3).sl (c:=c-p-2) (by omega);rw[hXl]at hS;refine(ye _ X _ hS hXb).mono ?_;rintro e w4 ⟨g4,n4,c4,rfl,hO,hb4⟩;go_wp2;go_ret2;exact⟨g4,n4,c4,rfl,dW hO hB3.size,aw hB3 hb4⟩
theorem JB(g o c N p q:Nat)(h:ByteArray)(w:World)(hx:w.cell? ⟨g,o+p,none⟩=some (.string al))(hh:w.cell? ⟨g,o+(p+1),none⟩=some (.string h))(hg:g<w.heap.size)(hpq:p+3≤q)(hq:q≤N)(hN:N≤c)(hc:c≤9223372036854775807)
  (HI:Hid (∀W,ai w W→ah 44 #[.slice (some ⟨g,o,none⟩) N c,.int .i64 p] W (aA (.int .i64 q) W)))
  (b_fn:(h.toList==[102,110])=false) (b_wh:(h.toList==[119,104,105,108,101])=false) (b_fo:(h.toList==[102,111,114])=false) (hv:gd h g (o+p+2) (q-p-3) (c-p-2)=.iface 157 (.agg #[])) (hw:gP h=true) :
  ah 136 #[.slice (some ⟨g,o,none⟩) N c,.int .i64 p,.bool false] w fun e w'=>∃g' n' cp,e=.returned (.tuple #[.slice (some ⟨g',0,none⟩) n' cp,.int .i64 q])∧aG w' w.heap.size g' n' cp [[al,bm,al,cW,cl],[],[aq,aq]].flatten∧ai w w':=by
 have b40:(al.toList==[40])=true:=iJ;have hp1:(p:Int)<(N:Int):=by omega
 have hp2:(p:Int)+1<(N:Int):=by omega
 have e1:((p:Int)+1).toNat=p+1:=by omega
 have e2:(0:Int)≤(p:Int)+1:=by omega
 have e3:(p:Int)+1≤(q:Int):=by omega
 have e4:(q:Int)≤(c:Int):=by omega
 have e5:p+1<c:=by omega
 have e6:p<c:=by omega
 have e7:(p:Int)≤(q:Int):=by omega
 have e8:q-p-3=q-(p+3):=by omega
 have HW:Hid (∀W,ai w W→ah 171 #[.slice (some ⟨g,o+p,none⟩) (q-p) (c-p)] W (aA (.tuple #[.iface 157 (.agg #[]),.bool true]) W)):=fun W hW=>by
  have h1:=pS g (o+p) (q-p) (c-p) h W (Nat.lt_of_lt_of_le hg hW.size) (by rw[Nat.add_assoc];exact(hW.cell (p:=⟨g,o+(p+1),none⟩) hg).trans hh) (by omega) (by omega) (by omega);rw[hv,hw]at h1;exact h1
 go_enter func136,ntmps136;go_wp2_with fail;refine(HI.out _ (Below.refl _ _)).mono ?_;rintro e w1 ⟨rfl,hb1⟩;have hh1:=(hb1.cell (p:=⟨g,o+(p+1),none⟩) hg).trans hh;go_wp2_with fail;refine(HW.out _ hb1).mono ?_;rintro e w2 ⟨rfl,hb2⟩;have hB2:=aw hb1 hb2;go_wp2_with fail;refine(D5 _).mono ?_;rintro e w4 ⟨g4,n4,c4,rfl,hO,hb4⟩;go_wp2;go_ret2;exact⟨g4,n4,c4,rfl,dW hO hB2.size,aw hB2 hb4⟩
theorem JC(g o c N p q:Nat)(h:ByteArray)(w:World)(hx:w.cell? ⟨g,o+p,none⟩=some (.string al))(hh:w.cell? ⟨g,o+(p+1),none⟩=some (.string h))(hg:g<w.heap.size)(hpq:p+3≤q)(hq:q≤N)(hN:N≤c)(hc:c≤9223372036854775807)
  (HI:Hid (∀W,ai w W→ah 44 #[.slice (some ⟨g,o,none⟩) N c,.int .i64 p] W (aA (.int .i64 q) W)))
  (b_fn:(h.toList==[102,110])=false) (b_wh:(h.toList==[119,104,105,108,101])=false) (b_fo:(h.toList==[102,111,114])=false) (hv:gd h g (o+p+2) (q-p-3) (c-p-2)=.iface 158 (.agg #[])) (hw:gP h=true) :
  ah 136 #[.slice (some ⟨g,o,none⟩) N c,.int .i64 p,.bool false] w fun e w'=>∃g' n' cp,e=.returned (.tuple #[.slice (some ⟨g',0,none⟩) n' cp,.int .i64 q])∧aG w' w.heap.size g' n' cp [[al,bm,al,cW,eR],[],[aq,aq]].flatten∧ai w w':=by
 have b40:(al.toList==[40])=true:=iJ;have hp1:(p:Int)<(N:Int):=by omega
 have hp2:(p:Int)+1<(N:Int):=by omega
 have e1:((p:Int)+1).toNat=p+1:=by omega
 have e2:(0:Int)≤(p:Int)+1:=by omega
 have e3:(p:Int)+1≤(q:Int):=by omega
 have e4:(q:Int)≤(c:Int):=by omega
 have e5:p+1<c:=by omega
 have e6:p<c:=by omega
 have e7:(p:Int)≤(q:Int):=by omega
 have e8:q-p-3=q-(p+3):=by omega
 have HW:Hid (∀W,ai w W→ah 171 #[.slice (some ⟨g,o+p,none⟩) (q-p) (c-p)] W (aA (.tuple #[.iface 158 (.agg #[]),.bool true]) W)):=fun W hW=>by
  have h1:=pS g (o+p) (q-p) (c-p) h W (Nat.lt_of_lt_of_le hg hW.size) (by rw[Nat.add_assoc];exact(hW.cell (p:=⟨g,o+(p+1),none⟩) hg).trans hh) (by omega) (by omega) (by omega);rw[hv,hw]at h1;exact h1
 go_enter func136,ntmps136;go_wp2_with fail;refine(HI.out _ (Below.refl _ _)).mono ?_;rintro e w1 ⟨rfl,hb1⟩;have hh1:=(hb1.cell (p:=⟨g,o+(p+1),none⟩) hg).trans hh;go_wp2_with fail;refine(HW.out _ hb1).mono ?_;rintro e w2 ⟨rfl,hb2⟩;have hB2:=aw hb1 hb2;go_wp2_with fail;refine(D6 _).mono ?_;rintro e w4 ⟨g4,n4,c4,rfl,hO,hb4⟩;go_wp2;go_ret2;exact⟨g4,n4,c4,rfl,dW hO hB2.size,aw hB2 hb4⟩
theorem Jv(g o c N p q:Nat)(h:ByteArray)(b:Bool)(w:World)(hx:w.cell? ⟨g,o+p,none⟩=some (.string al))(hh:w.cell? ⟨g,o+(p+1),none⟩=some (.string h))(hg:g<w.heap.size)(hpq:p+3≤q)(hq:q≤N)(hN:N≤c)(hc:c≤9223372036854775807)
  (HI:Hid (∀W,ai w W→ah 44 #[.slice (some ⟨g,o,none⟩) N c,.int .i64 p] W (aA (.int .i64 q) W)))
  (b_fn:(h.toList==[102,110])=false) (b_wh:(h.toList==[119,104,105,108,101])=false) (b_fo:(h.toList==[102,111,114])=false) (hv:gd h g (o+p+2) (q-p-3) (c-p-2)=.nilIface) (hw:gP h=false) :
  ah 136 #[.slice (some ⟨g,o,none⟩) N c,.int .i64 p,.bool b] w (aA (.tuple #[.slice (some ⟨g,o+p,none⟩) 1 1,.int .i64 ((p+1:Nat):Int)]) w):=by
 have b40:(al.toList==[40])=true:=iJ;have hp1:(p:Int)<(N:Int):=by omega
 have hp2:(p:Int)+1<(N:Int):=by omega
 have e1:((p:Int)+1).toNat=p+1:=by omega
 have e2:(0:Int)≤(p:Int)+1:=by omega
 have e3:(p:Int)+1≤(q:Int):=by omega
 have e4:(q:Int)≤(c:Int):=by omega
 have e5:p+1<c:=by omega
 have e6:p<c:=by omega
 have e7:(p:Int)≤(q:Int):=by omega
 have hcut:Hid (∀W,ah 170 #[.slice (some ⟨g,o,none⟩) N c,.int .i64 p,.int .i64 ((p:Int)+1)] W fun e w'=>e=.returned (.slice (some ⟨g,o+p,none⟩) 1 1)∧w'=W):=fun W=>by
  have:=qj g o N c p (p+1) W (by omega) (by omega);rw[show p+1-p=1 by omega,show((p+1:Nat):Int)=(p:Int)+1 by omega]at this;exact this
 have e8:q-p-3=q-(p+3):=by omega
 have HW:Hid (∀W,ai w W→ah 171 #[.slice (some ⟨g,o+p,none⟩) (q-p) (c-p)] W (aA (.tuple #[.nilIface,.bool false]) W)):=fun W hW=>by
  have h1:=pS g (o+p) (q-p) (c-p) h W (Nat.lt_of_lt_of_le hg hW.size) (by rw[Nat.add_assoc];exact(hW.cell (p:=⟨g,o+(p+1),none⟩) hg).trans hh) (by omega) (by omega) (by omega);rw[hv,hw]at h1;exact h1
 go_enter func136,ntmps136;go_wp2_with fail;refine(HI.out _ (Below.refl _ _)).mono ?_;rintro e w1 ⟨rfl,hb1⟩;have hh1:=(hb1.cell (p:=⟨g,o+(p+1),none⟩) hg).trans hh;go_wp2_with fail;refine(HW.out _ hb1).mono ?_;rintro e w2 ⟨rfl,hb2⟩;have hB2:=aw hb1 hb2;go_wp2_with fail;refine(hcut.out _).mono ?_;rintro e w4 ⟨rfl,rfl⟩;go_wp2;go_ret2;exact⟨by first|rfl|(congr 3),hB2⟩
theorem Jy(g o c N p q:Nat)(h:ByteArray)(w:World)(hx:w.cell? ⟨g,o+p,none⟩=some (.string al))(hh:w.cell? ⟨g,o+(p+1),none⟩=some (.string h))(hg:g<w.heap.size)(hpq:p+3≤q)(hq:q≤N)(hN:N≤c)(hc:c≤9223372036854775807)
  (HI:Hid (∀W,ai w W→ah 44 #[.slice (some ⟨g,o,none⟩) N c,.int .i64 p] W (aA (.int .i64 q) W)))
  (b_fn:(h.toList==[102,110])=false) (b_wh:(h.toList==[119,104,105,108,101])=false) (b_fo:(h.toList==[102,111,114])=false) (hv:gd h g (o+p+2) (q-p-3) (c-p-2)=.iface 157 (.agg #[])) (hw:gP h=true) :
  ah 136 #[.slice (some ⟨g,o,none⟩) N c,.int .i64 p,.bool true] w (aA (.tuple #[.slice (some ⟨g,o+p,none⟩) 1 1,.int .i64 ((p+1:Nat):Int)]) w):=by
 have b40:(al.toList==[40])=true:=iJ;have hp1:(p:Int)<(N:Int):=by omega
 have hp2:(p:Int)+1<(N:Int):=by omega
 have e1:((p:Int)+1).toNat=p+1:=by omega
 have e2:(0:Int)≤(p:Int)+1:=by omega
 have e3:(p:Int)+1≤(q:Int):=by omega
 have e4:(q:Int)≤(c:Int):=by omega
 have e5:p+1<c:=by omega
 have e6:p<c:=by omega
 have e7:(p:Int)≤(q:Int):=by omega
 have hcut:Hid (∀W,ah 170 #[.slice (some ⟨g,o,none⟩) N c,.int .i64 p,.int .i64 ((p:Int)+1)] W fun e w'=>e=.returned (.slice (some ⟨g,o+p,none⟩) 1 1)∧w'=W):=fun W=>by
  have:=qj g o N c p (p+1) W (by omega) (by omega);rw[show p+1-p=1 by omega,show((p+1:Nat):Int)=(p:Int)+1 by omega]at this;exact this
 have e8:q-p-3=q-(p+3):=by omega
 have HW:Hid (∀W,ai w W→ah 171 #[.slice (some ⟨g,o+p,none⟩) (q-p) (c-p)] W (aA (.tuple #[.iface 157 (.agg #[]),.bool true]) W)):=fun W hW=>by
  have h1:=pS g (o+p) (q-p) (c-p) h W (Nat.lt_of_lt_of_le hg hW.size) (by rw[Nat.add_assoc];exact(hW.cell (p:=⟨g,o+(p+1),none⟩) hg).trans hh) (by omega) (by omega) (by omega);rw[hv,hw]at h1;exact h1
 go_enter func136,ntmps136;go_wp2_with fail;refine(HI.out _ (Below.refl _ _)).mono ?_;rintro e w1 ⟨rfl,hb1⟩;have hh1:=(hb1.cell (p:=⟨g,o+(p+1),none⟩) hg).trans hh;go_wp2_with fail;refine(HW.out _ hb1).mono ?_;rintro e w2 ⟨rfl,hb2⟩;have hB2:=aw hb1 hb2;go_wp2_with fail;refine(N7 _).mono ?_;rintro e w3 ⟨rfl,hb3⟩;replace hB2:=aw hB2 hb3;go_wp2_with fail;refine(hcut.out _).mono ?_;rintro e w4 ⟨rfl,rfl⟩;go_wp2;go_ret2;exact⟨by first|rfl|(congr 3),hB2⟩
theorem Jz(g o c N p q:Nat)(h:ByteArray)(w:World)(hx:w.cell? ⟨g,o+p,none⟩=some (.string al))(hh:w.cell? ⟨g,o+(p+1),none⟩=some (.string h))(hg:g<w.heap.size)(hpq:p+3≤q)(hq:q≤N)(hN:N≤c)(hc:c≤9223372036854775807)
  (HI:Hid (∀W,ai w W→ah 44 #[.slice (some ⟨g,o,none⟩) N c,.int .i64 p] W (aA (.int .i64 q) W)))
  (b_fn:(h.toList==[102,110])=false) (b_wh:(h.toList==[119,104,105,108,101])=false) (b_fo:(h.toList==[102,111,114])=false) (hv:gd h g (o+p+2) (q-p-3) (c-p-2)=.iface 158 (.agg #[])) (hw:gP h=true) :
  ah 136 #[.slice (some ⟨g,o,none⟩) N c,.int .i64 p,.bool true] w (aA (.tuple #[.slice (some ⟨g,o+p,none⟩) 1 1,.int .i64 ((p+1:Nat):Int)]) w):=by
 have b40:(al.toList==[40])=true:=iJ;have hp1:(p:Int)<(N:Int):=by omega
 have hp2:(p:Int)+1<(N:Int):=by omega
 have e1:((p:Int)+1).toNat=p+1:=by omega
 have e2:(0:Int)≤(p:Int)+1:=by omega
 have e3:(p:Int)+1≤(q:Int):=by omega
 have e4:(q:Int)≤(c:Int):=by omega
 have e5:p+1<c:=by omega
 have e6:p<c:=by omega
 have e7:(p:Int)≤(q:Int):=by omega
 have hcut:Hid (∀W,ah 170 #[.slice (some ⟨g,o,none⟩) N c,.int .i64 p,.int .i64 ((p:Int)+1)] W fun e w'=>e=.returned (.slice (some ⟨g,o+p,none⟩) 1 1)∧w'=W):=fun W=>by
  have:=qj g o N c p (p+1) W (by omega) (by omega);rw[show p+1-p=1 by omega,show((p+1:Nat):Int)=(p:Int)+1 by omega]at this;exact this
 have e8:q-p-3=q-(p+3):=by omega
 have HW:Hid (∀W,ai w W→ah 171 #[.slice (some ⟨g,o+p,none⟩) (q-p) (c-p)] W (aA (.tuple #[.iface 158 (.agg #[]),.bool true]) W)):=fun W hW=>by
  have h1:=pS g (o+p) (q-p) (c-p) h W (Nat.lt_of_lt_of_le hg hW.size) (by rw[Nat.add_assoc];exact(hW.cell (p:=⟨g,o+(p+1),none⟩) hg).trans hh) (by omega) (by omega) (by omega);rw[hv,hw]at h1;exact h1
 go_enter func136,ntmps136;go_wp2_with fail;refine(HI.out _ (Below.refl _ _)).mono ?_;rintro e w1 ⟨rfl,hb1⟩;have hh1:=(hb1.cell (p:=⟨g,o+(p+1),none⟩) hg).trans hh;go_wp2_with fail;refine(HW.out _ hb1).mono ?_;rintro e w2 ⟨rfl,hb2⟩;have hB2:=aw hb1 hb2;go_wp2_with fail;refine(N8 _).mono ?_;rintro e w3 ⟨rfl,hb3⟩;replace hB2:=aw hB2 hb3;go_wp2_with fail;refine(hcut.out _).mono ?_;rintro e w4 ⟨rfl,rfl⟩;go_wp2;go_ret2;exact⟨by first|rfl|(congr 3),hB2⟩
end Go.Proofs.YtdojfommmpnbgaaGreatDoor
