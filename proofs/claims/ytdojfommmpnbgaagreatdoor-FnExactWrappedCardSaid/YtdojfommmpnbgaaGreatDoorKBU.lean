import Derived.Test.YtdojfommmpnbgaaGreatDoorKBT
import Derived.Handy
import Derived.Stop.Asserts
set_option maxHeartbeats 2000000
namespace Go.Proofs.YtdojfommmpnbgaaGreatDoor
open Go.RowKit Go.Proofs.Tryz
theorem DV(v:Value)(w:World):(Instr.typeAssert (.iface 155 v) 163 220 true).run prog w=.ok (.tuple #[.iface 155 v,.bool true]) w:=run_typeAssert_hasB Tryz.underlying220 (by kernel_rfl) v 163 w
theorem DW(v:Value)(w:World):(Instr.typeAssert (.iface 157 v) 163 220 true).run prog w=.ok (.tuple #[.nilIface,.bool false]) w:=run_typeAssert_lacksB Tryz.underlying220 (by kernel_rfl) (by kernel_rfl) v 163 w
theorem DX(v:Value)(w:World):(Instr.typeAssert (.iface 158 v) 163 220 true).run prog w=.ok (.tuple #[.nilIface,.bool false]) w:=run_typeAssert_lacksB Tryz.underlying220 (by kernel_rfl) (by kernel_rfl) v 163 w
attribute [local go_sem] DV DW DX
theorem ym(v:Value)(w:World):ah 173 #[.iface 155 (.agg #[v])] w (aA v w):=by
 go_enter func173,ntmps173;go_wp2;go_ret;exact⟨rfl,by go_grown⟩
theorem yn(w:World):ah 173 #[.iface 157 (.agg #[])] w fun e w'=>∃v,e=.returned v∧Sl w' v []∧ai w w':=by
 go_enter func173,ntmps173;go_wp2;go_ret;exact⟨_,rfl,⟨w.heap.size,0,0,rfl,by simp,Nat.le_refl _,fun i hi=>absurd hi (Nat.not_lt_zero _)⟩,by go_grown⟩
theorem yo(w:World):ah 173 #[.iface 158 (.agg #[])] w fun e w'=>∃v,e=.returned v∧Sl w' v []∧ai w w':=by
 go_enter func173,ntmps173;go_wp2;go_ret;exact⟨_,rfl,⟨w.heap.size,0,0,rfl,by simp,Nat.le_refl _,fun i hi=>absurd hi (Nat.not_lt_zero _)⟩,by go_grown⟩
theorem dM(w:World)(X:af)(t:TypeId):Sl (w.alloc (.cells (X.map Value.string).toArray t)) (.slice (some ⟨w.heap.size,0,none⟩) X.length X.length) X :=
 ⟨w.heap.size,0,X.length,rfl,by simp,Nat.le_refl _,fun i hi=>by
  have h:=World.alloc_heap_new w (.cells (X.map Value.string).toArray t);have h2:((X.map Value.string).toArray)[i]?=some (.string X[i]):=by simp[hi]
  rw[Nat.zero_add];unfold World.cell?;rw[h];exact h2⟩
theorem Mp(w:World)(V:List Value)(XS:List af)(t:TypeId)(hl:V.length=XS.length)(hs:∀i (_:i<XS.length) (h':i<V.length),Sl w V[i] XS[i]):pY (w.alloc (.cells V.toArray t)) w.heap.size V XS :=
 ⟨hl,by simp,fun i hi hi'=>⟨by
  have h:=World.alloc_heap_new w (.cells V.toArray t);have h2:(V.toArray)[i]?=some V[i]:=by simp[hi']
  unfold World.cell?;rw[h];exact h2,(hs i hi hi').call (ay (Below.refl _ _) _)⟩⟩
theorem pM{w:World}{a b c:Value}{A B C:af}(ha:Sl w a A)(hb:Sl w b B)(hc:Sl w c C):∀i (_:i<[A,B,C].length) (h':i<[a,b,c].length),Sl w [a,b,c][i] [A,B,C][i]:=fun i _ h'=>by
 match i,h' with
 |0,_=>exact ha
 |1,_=>exact hb
 |2,_=>exact hc
theorem kH(w:World)(V:List Value)(XS:List af)(hl:V.length=XS.length)(hs:∀i (_:i<XS.length) (h':i<V.length),Sl w V[i] XS[i])(hkb:XS.length≤1000)(hf:∀h:0<XS.length,0<XS[0].length)(h0:0<XS.length)(hn:eB XS≤1000000) :
  ah 77 #[.slice (some ⟨w.heap.size,0,none⟩) XS.length XS.length] (w.alloc (.cells V.toArray 22)) fun e w'=>∃g' n' cp,e=.returned (.slice (some ⟨g',0,none⟩) n' cp)∧aG w' w.heap.size g' n' cp XS.flatten∧ai w w':=by
 have hB:=ay (Below.refl w.heap.size w) (.cells V.toArray 22);refine(Ex w.heap.size XS.length XS.length V XS _ (Mp w V XS 22 hl hs) rfl hkb hf h0 hn).mono ?_;rintro e w' ⟨g,n,cp,rfl,hO,hb⟩;exact⟨g,n,cp,rfl,dW hO hB.size,aw hB hb⟩
theorem xD(v:Value)(w:World):ah 247 #[.agg #[v]] w (aA (.string bm) w):=by
 go_enter func247,ntmps247;go_wp2;go_ret;exact⟨rfl,by go_grown⟩
theorem DA(v:Value)(w:World):ah 245 #[.agg #[v]] w (aA (.string bV) w):=by
 go_enter func245,ntmps245;go_wp2;go_ret;exact⟨rfl,by go_grown⟩
theorem N6(v:Value)(w:World):ah 244 #[.agg #[v]] w (aA (.bool false) w):=by
 go_enter func244,ntmps244;go_wp2;go_ret;exact⟨rfl,by go_grown⟩
theorem xE(w:World):ah 250 #[.agg #[]] w (aA (.string dL) w):=by
 go_enter func250,ntmps250;go_wp2;go_ret;exact⟨rfl,by go_grown⟩
theorem DB(w:World):ah 249 #[.agg #[]] w (aA (.string cl) w):=by
 go_enter func249,ntmps249;go_wp2;go_ret;exact⟨rfl,by go_grown⟩
theorem N7(w:World):ah 248 #[.agg #[]] w (aA (.bool true) w):=by
 go_enter func248,ntmps248;go_wp2;go_ret;exact⟨rfl,by go_grown⟩
theorem xF(w:World):ah 253 #[.agg #[]] w (aA (.string dU) w):=by
 go_enter func253,ntmps253;go_wp2;go_ret;exact⟨rfl,by go_grown⟩
theorem N9(w:World):ah 252 #[.agg #[]] w (aA (.string eR) w):=by
 go_enter func252,ntmps252;go_wp2;go_ret;exact⟨rfl,by go_grown⟩
theorem N8(w:World):ah 251 #[.agg #[]] w (aA (.bool true) w):=by
 go_enter func251,ntmps251;go_wp2;go_ret;exact⟨rfl,by go_grown⟩
theorem DY(v:Value)(X:af)(w:World)(h:Sl w v X)(hl:X.length≤500000):ah 138 #[.iface 155 (.agg #[v])] w fun e w'=>∃g n cp,e=.returned (.slice (some ⟨g,0,none⟩) n cp)∧aG w' w.heap.size g n cp [[al,bm],X,[aq]].flatten∧ai w w':=by
 go_enter func138,ntmps138;go_wp2_with fail;refine(xD v _).mono ?_;rintro e w1 ⟨rfl,hb1⟩;have hbA:=ay (Below.refl w1.heap.size w1) (.cells #[.string ⟨#[40]⟩,.string ⟨#[98,97,99,107]⟩] 9);have hA:=dM w1 [al,bm] 9;go_wp2_with fail;refine(ym v _).mono ?_;rintro e w2 ⟨rfl,hb2⟩;have hv:=((h.call hb1).call hbA).call hb2;obtain⟨g1,o1,c1,rfl,_⟩:=id hv;have hbB:=ay (Below.refl w2.heap.size w2) (.cells #[.string ⟨#[41]⟩] 9);have HC:=kH (w2.alloc (.cells #[.string ⟨#[41]⟩] 9)) [.slice (some ⟨w1.heap.size,0,none⟩) 2 2,_,.slice (some ⟨w2.heap.size,0,none⟩) 1 1] [[al,bm],X,[aq]] rfl (pM ((Sl.call hA hb2).call hbB) (hv.call hbB) (dM w2 [aq] 9)) (by simp) (fun _=>by simp) (by simp) (by simp[eB];omega);rw[World.size_alloc]at HC;have hB3:ai w (w2.alloc (.cells #[.string ⟨#[41]⟩] 9)):=aw (aw (aw hb1 hbA) hb2) hbB;have hz:=hB3.size;rw[World.size_alloc]at hz;clear hA hv hb1 hb2 hbA hbB h;go_wp2_with fail;refine HC.mono ?_;rintro e w4 ⟨g,n,cp,rfl,hO,hb4⟩;go_wp2;go_ret;exact⟨g,n,cp,rfl,dW hO hz,aw hB3 (hb4.mono (by simp))⟩
theorem DZ(w:World):ah 138 #[.iface 157 (.agg #[])] w fun e w'=>∃g n cp,e=.returned (.slice (some ⟨g,0,none⟩) n cp)∧aG w' w.heap.size g n cp [[al,dL],[],[aq]].flatten∧ai w w':=by
 go_enter func138,ntmps138;go_wp2_with fail;refine(xE _).mono ?_;rintro e w1 ⟨rfl,hb1⟩;have hbA:=ay (Below.refl w1.heap.size w1) (.cells #[.string ⟨#[40]⟩,.string ⟨#[108,101,97,118,101]⟩] 9);have hA:=dM w1 [al,dL] 9;go_wp2_with fail;refine(yn _).mono ?_;rintro e w2 ⟨v,rfl,hv,hb2⟩;obtain⟨g1,o1,c1,rfl,_⟩:=id hv;have hbB:=ay (Below.refl w2.heap.size w2) (.cells #[.string ⟨#[41]⟩] 9);have HC:=kH (w2.alloc (.cells #[.string ⟨#[41]⟩] 9)) [.slice (some ⟨w1.heap.size,0,none⟩) 2 2,_,.slice (some ⟨w2.heap.size,0,none⟩) 1 1] [[al,dL],[],[aq]] rfl (pM ((Sl.call hA hb2).call hbB) (hv.call hbB) (dM w2 [aq] 9)) (by simp) (fun _=>by simp) (by simp) (by simp[eB]);rw[World.size_alloc]at HC;have hB3:ai w (w2.alloc (.cells #[.string ⟨#[41]⟩] 9)):=aw (aw (aw hb1 hbA) hb2) hbB;have hz:=hB3.size;rw[World.size_alloc]at hz;clear hA hv hb1 hb2 hbA hbB;go_wp2_with fail;refine HC.mono ?_;rintro e w4 ⟨g,n,cp,rfl,hO,hb4⟩;go_wp2;go_ret;exact⟨g,n,cp,rfl,dW hO hz,aw hB3 (hb4.mono (by simp))⟩
theorem D0(w:World):ah 138 #[.iface 158 (.agg #[])] w fun e w'=>∃g n cp,e=.returned (.slice (some ⟨g,0,none⟩) n cp)∧aG w' w.heap.size g n cp [[al,dU],[],[aq]].flatten∧ai w w':=by
 go_enter func138,ntmps138;go_wp2_with fail;refine(xF _).mono ?_;rintro e w1 ⟨rfl,hb1⟩;have hbA:=ay (Below.refl w1.heap.size w1) (.cells #[.string ⟨#[40]⟩,.string ⟨#[110,101,120,116]⟩] 9);have hA:=dM w1 [al,dU] 9;go_wp2_with fail;refine(yo _).mono ?_;rintro e w2 ⟨v,rfl,hv,hb2⟩;obtain⟨g1,o1,c1,rfl,_⟩:=id hv;have hbB:=ay (Below.refl w2.heap.size w2) (.cells #[.string ⟨#[41]⟩] 9);have HC:=kH (w2.alloc (.cells #[.string ⟨#[41]⟩] 9)) [.slice (some ⟨w1.heap.size,0,none⟩) 2 2,_,.slice (some ⟨w2.heap.size,0,none⟩) 1 1] [[al,dU],[],[aq]] rfl (pM ((Sl.call hA hb2).call hbB) (hv.call hbB) (dM w2 [aq] 9)) (by simp) (fun _=>by simp) (by simp) (by simp[eB]);rw[World.size_alloc]at HC;have hB3:ai w (w2.alloc (.cells #[.string ⟨#[41]⟩] 9)):=aw (aw (aw hb1 hbA) hb2) hbB;have hz:=hB3.size;rw[World.size_alloc]at hz;clear hA hv hb1 hb2 hbA hbB;go_wp2_with fail;refine HC.mono ?_;rintro e w4 ⟨g,n,cp,rfl,hO,hb4⟩;go_wp2;go_ret;exact⟨g,n,cp,rfl,dW hO hz,aw hB3 (hb4.mono (by simp))⟩
theorem ye(v:Value)(X:af)(w:World)(h:Sl w v X)(hl:X.length≤500000):ah 172 #[.iface 155 (.agg #[v])] w fun e w'=>∃g n cp,e=.returned (.slice (some ⟨g,0,none⟩) n cp)∧aG w' w.heap.size g n cp [[al,bm,al,cW,bV],X,[aq,aq]].flatten∧ai w w':=by
 go_enter func172,ntmps172;go_wp2_with fail;refine(DA v _).mono ?_;rintro e w1 ⟨rfl,hb1⟩;have hbA:=ay (Below.refl w1.heap.size w1) (.cells #[.string ⟨#[40]⟩,.string ⟨#[98,97,99,107]⟩,.string ⟨#[40]⟩,.string ⟨#[116,104,105,110,103]⟩,.string ⟨#[49]⟩] 9);have hA:=dM w1 [al,bm,al,cW,bV] 9;go_wp2_with fail;refine(ym v _).mono ?_;rintro e w2 ⟨rfl,hb2⟩;have hv:=((h.call hb1).call hbA).call hb2;obtain⟨g1,o1,c1,rfl,_⟩:=id hv;have hbB:=ay (Below.refl w2.heap.size w2) (.cells #[.string ⟨#[41]⟩,.string ⟨#[41]⟩] 9);have HC:=kH (w2.alloc (.cells #[.string ⟨#[41]⟩,.string ⟨#[41]⟩] 9)) [.slice (some ⟨w1.heap.size,0,none⟩) 5 5,_,.slice (some ⟨w2.heap.size,0,none⟩) 2 2] [[al,bm,al,cW,bV],X,[aq,aq]] rfl (pM ((Sl.call hA hb2).call hbB) (hv.call hbB) (dM w2 [aq,aq] 9)) (by simp) (fun _=>by simp) (by simp) (by simp[eB];omega);rw[World.size_alloc]at HC;have hB3:ai w (w2.alloc (.cells #[.string ⟨#[41]⟩,.string ⟨#[41]⟩] 9)):=aw (aw (aw hb1 hbA) hb2) hbB;have hz:=hB3.size;rw[World.size_alloc]at hz;clear hA hv hb1 hb2 hbA hbB h;go_wp2_with fail;refine HC.mono ?_;rintro e w4 ⟨g,n,cp,rfl,hO,hb4⟩;go_wp2;go_ret;exact⟨g,n,cp,rfl,dW hO hz,aw hB3 (hb4.mono (by simp))⟩
theorem D5(w:World):ah 172 #[.iface 157 (.agg #[])] w fun e w'=>∃g n cp,e=.returned (.slice (some ⟨g,0,none⟩) n cp)∧aG w' w.heap.size g n cp [[al,bm,al,cW,cl],[],[aq,aq]].flatten∧ai w w':=by
 go_enter func172,ntmps172;go_wp2_with fail;refine(DB _).mono ?_;rintro e w1 ⟨rfl,hb1⟩;have hbA:=ay (Below.refl w1.heap.size w1) (.cells #[.string ⟨#[40]⟩,.string ⟨#[98,97,99,107]⟩,.string ⟨#[40]⟩,.string ⟨#[116,104,105,110,103]⟩,.string ⟨#[50]⟩] 9);have hA:=dM w1 [al,bm,al,cW,cl] 9;go_wp2_with fail;refine(yn _).mono ?_;rintro e w2 ⟨v,rfl,hv,hb2⟩;obtain⟨g1,o1,c1,rfl,_⟩:=id hv;have hbB:=ay (Below.refl w2.heap.size w2) (.cells #[.string ⟨#[41]⟩,.string ⟨#[41]⟩] 9);have HC:=kH (w2.alloc (.cells #[.string ⟨#[41]⟩,.string ⟨#[41]⟩] 9)) [.slice (some ⟨w1.heap.size,0,none⟩) 5 5,_,.slice (some ⟨w2.heap.size,0,none⟩) 2 2] [[al,bm,al,cW,cl],[],[aq,aq]] rfl (pM ((Sl.call hA hb2).call hbB) (hv.call hbB) (dM w2 [aq,aq] 9)) (by simp) (fun _=>by simp) (by simp) (by simp[eB]);rw[World.size_alloc]at HC;have hB3:ai w (w2.alloc (.cells #[.string ⟨#[41]⟩,.string ⟨#[41]⟩] 9)):=aw (aw (aw hb1 hbA) hb2) hbB;have hz:=hB3.size;rw[World.size_alloc]at hz;clear hA hv hb1 hb2 hbA hbB;go_wp2_with fail;refine HC.mono ?_;rintro e w4 ⟨g,n,cp,rfl,hO,hb4⟩;go_wp2;go_ret;exact⟨g,n,cp,rfl,dW hO hz,aw hB3 (hb4.mono (by simp))⟩
theorem D6(w:World):ah 172 #[.iface 158 (.agg #[])] w fun e w'=>∃g n cp,e=.returned (.slice (some ⟨g,0,none⟩) n cp)∧aG w' w.heap.size g n cp [[al,bm,al,cW,eR],[],[aq,aq]].flatten∧ai w w':=by
 go_enter func172,ntmps172;go_wp2_with fail;refine(N9 _).mono ?_;rintro e w1 ⟨rfl,hb1⟩;have hbA:=ay (Below.refl w1.heap.size w1) (.cells #[.string ⟨#[40]⟩,.string ⟨#[98,97,99,107]⟩,.string ⟨#[40]⟩,.string ⟨#[116,104,105,110,103]⟩,.string ⟨#[51]⟩] 9);have hA:=dM w1 [al,bm,al,cW,eR] 9;go_wp2_with fail;refine(yo _).mono ?_;rintro e w2 ⟨v,rfl,hv,hb2⟩;obtain⟨g1,o1,c1,rfl,_⟩:=id hv;have hbB:=ay (Below.refl w2.heap.size w2) (.cells #[.string ⟨#[41]⟩,.string ⟨#[41]⟩] 9);have HC:=kH (w2.alloc (.cells #[.string ⟨#[41]⟩,.string ⟨#[41]⟩] 9)) [.slice (some ⟨w1.heap.size,0,none⟩) 5 5,_,.slice (some ⟨w2.heap.size,0,none⟩) 2 2] [[al,bm,al,cW,eR],[],[aq,aq]] rfl (pM ((Sl.call hA hb2).call hbB) (hv.call hbB) (dM w2 [aq,aq] 9)) (by simp) (fun _=>by simp) (by simp) (by simp[eB]);rw[World.size_alloc]at HC;have hB3:ai w (w2.alloc (.cells #[.string ⟨#[41]⟩,.string ⟨#[41]⟩] 9)):=aw (aw (aw hb1 hbA) hb2) hbB;have hz:=hB3.size;rw[World.size_alloc]at hz;clear hA hv hb1 hb2 hbA hbB;go_wp2_with fail;refine HC.mono ?_;rintro e w4 ⟨g,n,cp,rfl,hO,hb4⟩;go_wp2;go_ret;exact⟨g,n,cp,rfl,dW hO hz,aw hB3 (hb4.mono (by simp))⟩
def nw(w:World)(g:Nat)(v:Value):Prop:=g<w.heap.size∧w.cell? ⟨g,0,none⟩=some (.iface 155 (.agg #[v]))∧w.cell? ⟨g,1,none⟩=some (.iface 157 (.agg #[]))∧w.cell? ⟨g,2,none⟩=some (.iface 158 (.agg #[]))
theorem nw.call{w w':World}{g:Nat}{v:Value}(h:nw w g v)(hb:ai w w'):nw w' g v :=
 ⟨Nat.lt_of_lt_of_le h.1 hb.size,(hb.cell (p:=⟨g,0,none⟩) h.1).trans h.2.1,(hb.cell (p:=⟨g,1,none⟩) h.1).trans h.2.2.1,(hb.cell (p:=⟨g,2,none⟩) h.1).trans h.2.2.2⟩
theorem DF(a:Option Addr)(n c:Nat)(w:World):ah 76 #[.slice a n c] w fun e w'=>∃g,e=.returned (.slice (some ⟨g,0,none⟩) 3 3)∧nw w' g (.slice a n c)∧w.heap.size≤g∧ai w w':=by
 go_enter func76,ntmps76;go_wp2;go_ret;exact⟨w.heap.size,rfl,⟨by simp,by simp[go_sem],by simp[go_sem],by simp[go_sem]⟩,Nat.le_refl _,by go_grown⟩
theorem C9{w:World}{a b c d:Value}{A B C D:af}(ha:Sl w a A)(hb:Sl w b B)(hc:Sl w c C)(hd:Sl w d D):∀i (_:i<[A,B,C,D].length) (h':i<[a,b,c,d].length),Sl w [a,b,c,d][i] [A,B,C,D][i]:=fun i _ h'=>by
 match i,h' with
 |0,_=>exact ha
 |1,_=>exact hb
 |2,_=>exact hc
 |3,_=>exact hd
def n8:af:=[[al,dU],[],[aq]].flatten
def pD(f:ByteArray):af:=[[al,cF,al,cA,al,dY,f,dh,aq,cl,aq],[[al,dL],[],[aq]].flatten,n8,[aq]].flatten
def pC(f:ByteArray)(X:af):af:=[[al,cF,al,cA,al,dY,f,dh,aq,bV,aq],[[al,bm],X,[aq]].flatten,pD f,[aq]].flatten
theorem JN(f:ByteArray)(g:Nat)(v:Value)(w:World)(h:nw w g v):ah 78 #[.slice (some ⟨g,2,none⟩) 1 1,.string f] w fun e w'=>∃g' n cp,e=.returned (.slice (some ⟨g',0,none⟩) n cp)∧aG w' w.heap.size g' n cp n8∧ai w w':=by
 have hz:=h.1;have hc:=h.2.2.2;go_enter func78,ntmps78;go_wp2_with fail;refine(D0 _).mono ?_;rintro e w1 ⟨g1,n1,c1,rfl,hO,hb1⟩;go_wp2;go_ret;exact⟨g1,n1,c1,rfl,hO,hb1⟩
theorem JM(f:ByteArray)(g:Nat)(v:Value)(w:World)(h:nw w g v):ah 78 #[.slice (some ⟨g,1,none⟩) 2 2,.string f] w fun e w'=>∃g' n cp,e=.returned (.slice (some ⟨g',0,none⟩) n cp)∧aG w' w.heap.size g' n cp (pD f)∧ai w w':=by
 have hz:=h.1;have hc:=h.2.2.1;go_enter func78,ntmps78;go_wp2_with fail;refine(DZ _).mono ?_;rintro e w1 ⟨g1,n1,c1,rfl,hO1,hb1⟩;have hS1:=aG.sl hO1;have hc1:=(h.call hb1).2.2.1;have hg1:=World.ownsRow.lt hO1 g1 rfl;clear hc hO1;go_wp2_with fail;refine(DB _).mono ?_;rintro e w2 ⟨rfl,hb2⟩;have hbA:=ay (Below.refl w2.heap.size w2) (.cells #[.string ⟨#[40]⟩,.string ⟨#[105,102]⟩,.string ⟨#[40]⟩,.string ⟨#[61]⟩,.string ⟨#[40]⟩,.string ⟨#[103,101,116]⟩,.string f,.string ⟨#[48]⟩,.string ⟨#[41]⟩,.string ⟨#[50]⟩,.string ⟨#[41]⟩] 9);have hA:=dM w2 [al,cF,al,cA,al,dY,f,dh,aq,cl,aq] 9;have hWA:=((h.call hb1).call hb2).call hbA;clear hc1;go_wp2_with fail;refine(JN f g v _ hWA).mono ?_;rintro e w3 ⟨g3,n3,c3,rfl,hO3,hb3⟩;have hS3:=aG.sl hO3;have hbB:=ay (Below.refl w3.heap.size w3) (.cells #[.string ⟨#[41]⟩] 9);have hS1':=((hS1.call hb2).call hbA).call hb3;obtain⟨q1,hq1⟩:∃q,([[al,dL],[],[aq]].flatten).length=q:=⟨_,rfl⟩;have HC:=kH (w3.alloc (.cells #[.string ⟨#[41]⟩] 9)) [.slice (some ⟨w2.heap.size,0,none⟩) 11 11,.slice (some ⟨g1,0,none⟩) n1 c1,.slice (some ⟨g3,0,none⟩) n3 c3,.slice (some ⟨w3.heap.size,0,none⟩) 1 1] [[al,cF,al,cA,al,dY,f,dh,aq,cl,aq],[[al,dL],[],[aq]].flatten,n8,[aq]] rfl (C9 ((Sl.call hA hb3).call hbB) (hS1'.call hbB) (hS3.call hbB) (dM w3 [aq] 9)) (by simp) (fun _=>by simp) (by simp) (by simp[eB,n8]);rw[World.size_alloc]at HC;have hB3:ai w (w3.alloc (.cells #[.string ⟨#[41]⟩] 9)):=aw (aw (aw (aw hb1 hb2) hbA) hb3) hbB;have hz3:=hB3.size;rw[World.size_alloc]at hz3;clear hA hb1 hb2 hbA hbB hS1 hS1' hS3 hO3 hWA hg1 hq1 h;go_wp2_with fail;refine HC.mono ?_;rintro e w4 ⟨g4,n4,cp,rfl,hO,hb4⟩;go_wp2;go_ret;exact⟨g4,n4,cp,rfl,dW hO hz3,aw hB3 (hb4.mono (by simp))⟩
theorem JL(f:ByteArray)(g:Nat)(v:Value)(w:World)(X:af)(hv:Sl w v X)(hl:X.length≤400000)(h:nw w g v):ah 78 #[.slice (some ⟨g,0,none⟩) 3 3,.string f] w fun e w'=>∃g' n cp,e=.returned (.slice (some ⟨g',0,none⟩) n cp)∧aG w' w.heap.size g' n cp (pC f X)∧ai w w':=by
 have hz:=h.1;have hc:=h.2.1;go_enter func78,ntmps78;go_wp2_with fail;refine(DY v X _ hv (by omega)).mono ?_;rintro e w1 ⟨g1,n1,c1,rfl,hO1,hb1⟩;have hS1:=aG.sl hO1;have hc1:=(h.call hb1).2.1;have hg1:=World.ownsRow.lt hO1 g1 rfl;clear hc hO1;go_wp2_with fail;refine(DA v _).mono ?_;rintro e w2 ⟨rfl,hb2⟩;have hbA:=ay (Below.refl w2.heap.size w2) (.cells #[.string ⟨#[40]⟩,.string ⟨#[105,102]⟩,.string ⟨#[40]⟩,.string ⟨#[61]⟩,.string ⟨#[40]⟩,.string ⟨#[103,101,116]⟩,.string f,.string ⟨#[48]⟩,.string ⟨#[41]⟩,.string ⟨#[49]⟩,.string ⟨#[41]⟩] 9);have hA:=dM w2 [al,cF,al,cA,al,dY,f,dh,aq,bV,aq] 9;have hWA:=((h.call hb1).call hb2).call hbA;clear hc1;go_wp2_with fail;refine(JM f g v _ hWA).mono ?_;rintro e w3 ⟨g3,n3,c3,rfl,hO3,hb3⟩;have hS3:=aG.sl hO3;have hbB:=ay (Below.refl w3.heap.size w3) (.cells #[.string ⟨#[41]⟩] 9);have hS1':=((hS1.call hb2).call hbA).call hb3;obtain⟨q1,hq1⟩:∃q,([[al,bm],X,[aq]].flatten).length=q:=⟨_,rfl⟩;have HC:=kH (w3.alloc (.cells #[.string ⟨#[41]⟩] 9)) [.slice (some ⟨w2.heap.size,0,none⟩) 11 11,.slice (some ⟨g1,0,none⟩) n1 c1,.slice (some ⟨g3,0,none⟩) n3 c3,.slice (some ⟨w3.heap.size,0,none⟩) 1 1] [[al,cF,al,cA,al,dY,f,dh,aq,bV,aq],[[al,bm],X,[aq]].flatten,pD f,[aq]] rfl (C9 ((Sl.call hA hb3).call hbB) (hS1'.call hbB) (hS3.call hbB) (dM w3 [aq] 9)) (by simp) (fun _=>by simp) (by simp) (by simp[eB,n8,pD];omega);rw[World.size_alloc]at HC;have hB3:ai w (w3.alloc (.cells #[.string ⟨#[41]⟩] 9)):=aw (aw (aw (aw hb1 hb2) hbA) hb3) hbB;have hz3:=hB3.size;rw[World.size_alloc]at hz3;clear hA hb1 hb2 hbA hbB hS1 hS1' hS3 hO3 hWA hg1 hq1 h hv;go_wp2_with fail;refine HC.mono ?_;rintro e w4 ⟨g4,n4,cp,rfl,hO,hb4⟩;go_wp2;go_ret;exact⟨g4,n4,cp,rfl,dW hO hz3,aw hB3 (hb4.mono (by simp))⟩
def Tx(w:World)(g o:Nat)(X:af):Prop:=g<w.heap.size∧∀i (h:i<X.length),w.cell? ⟨g,o+i,none⟩=some (.string X[i])
section
variable {w w':World} {g o c:Nat} {X P F R:af} {x:ByteArray}
theorem Tx.call(h:Tx w g o X)(hb:ai w w'):Tx w' g o X:=⟨Nat.lt_of_lt_of_le h.1 hb.size,fun i hi=>(hb.cell (p:=⟨g,o+i,none⟩) h.1).trans (h.2 i hi)⟩
theorem Tx.sl(h:Tx w g o X)(hc:X.length≤c):Sl w (.slice (some ⟨g,o,none⟩) X.length c) X:=⟨g,o,c,rfl,h.1,hc,h.2⟩
theorem Tx.at(h:Tx w g o (P++(x::R))):w.cell? ⟨g,o+P.length,none⟩=some (.string x):=by
 have:=h.2 P.length (by simp);rw[this];simp
theorem Tx.OU(h:Tx w g o (P++(F++R))):Tx w g (o+P.length) F:=⟨h.1,fun i hi=>by
 have:=h.2 (P.length+i) (by simp;omega);rw[show o+P.length+i=o+(P.length+i) by omega,this];simp[List.getElem_append_right,List.getElem_append_left,hi]⟩
theorem Tx.arg(h:Tx w g o X)(hm:∀s∈X,Gs s):aD w (some ⟨g,o,none⟩) X:=fun i hi=>⟨g,o,rfl,h.1,h.2 i hi,(hm _ (List.getElem_mem hi)).2⟩
end
theorem FW{X:af}(h:∀s∈X,Gs s):bQ X=true:=by
 unfold bQ;rw[List.all_eq_true];exact fun s hs=>(h s hs).1
theorem qj(g o n c i j:Nat)(w:World)(hij:i<j)(hj:j≤c):ah 170 #[.slice (some ⟨g,o,none⟩) n c,.int .i64 i,.int .i64 j] w fun e w'=>e=.returned (.slice (some ⟨g,o+i,none⟩) (j-i) (j-i))∧w'=w:=by
 have h1:i<c:=by omega
 have h2:i≤j:=by omega
 go_enter func170,ntmps170;go_wp2;go_ret;exact⟨by first|rfl|(congr 2;omega),rfl⟩
def gd(h:ByteArray)(g o n c:Nat):Value:=if ae h [98,97,99,107]then .iface 155 (.agg #[.slice (some ⟨g,o,none⟩) n c])else if ae h [108,101,97,118,101]then .iface 157 (.agg #[])else if ae h [110,101,120,116]then .iface 158 (.agg #[])else .nilIface
def gP(h:ByteArray):Bool:=ae h [98,97,99,107]||(ae h [108,101,97,118,101]||ae h [110,101,120,116])
def fB(w:World)(g o:Nat)(h:ByteArray)(x:World):Prop:=x.cell? ⟨g,o,none⟩=some (.string h)∧g<x.heap.size∧ai w x
theorem fB.call{w x y:World}{g o:Nat}{h:ByteArray}(k:fB w g o h x)(hb:ai x y):fB w g o h y :=
 ⟨(hb.cell (p:=⟨g,o,none⟩) k.2.1).trans k.1,Nat.lt_of_lt_of_le k.2.1 hb.size,aw k.2.2 hb⟩
theorem fB.drew{w x:World}{g o:Nat}{h:ByteArray}(k:fB w g o h x):fB w g o h x.drew:=⟨k.1,k.2.1,k.2.2.drew⟩
set_option maxRecDepth 100000 in
theorem pS(g o n c:Nat)(h:ByteArray)(w:World)(hg:g<w.heap.size)(hh:w.cell? ⟨g,o+1,none⟩=some (.string h))(hn:3≤n)(hc:n≤c)(hc2:c≤9223372036854775807) :
  ah 171 #[.slice (some ⟨g,o,none⟩) n c] w (aA (.tuple #[gd h g (o+2) (n-3) (c-2),.bool (gP h)]) w):=by
 have e1:(2:Int)≤(n:Int)-1:=by omega
 have e2:((n:Int)-1).toNat=n-1:=by omega
 have e3:IntKind.i64.wrap ((n:Int)-1)=(n:Int)-1:=by rw[IntKind.wrap_i64];omega
 have e4:2<c:=by omega
 have e5:(n:Int)-1≤(c:Int):=by omega
 have e6:n-1-2=n-3:=by omega
 have e7:(0:Int)≤(n:Int)-1:=by omega
 have e8:(1:Int)<(n:Int):=by omega
 have HW:Hid (gd h g (o+2) (n-3) (c-2)=gd h g (o+2) (n-3) (c-2)):=rfl;obtain⟨T,hT⟩:∃T,gd h g (o+2) (n-3) (c-2)=T:=⟨_,rfl⟩;obtain⟨B,hB⟩:∃B,gP h=B:=⟨_,rfl⟩;have HT:=aj hT;have HB:=aj hB;rw[hT,hB];clear hT hB HW;go_enter func171,ntmps171;go_wp2_with fail;refine(DF (some ⟨g,o+2,none⟩) (n-3) (c-2) _).mono ?_;rintro e w1 ⟨g1,rfl,hW1,hg1,hb1⟩;have hh1:=(hb1.cell (p:=⟨g,o+1,none⟩) hg).trans hh;have hgz:g<w1.heap.size:=Nat.lt_of_lt_of_le hg hb1.size;clear hh hg1;go_wp2;go_loopw [6,15] (fun _ v15 wr=>∃k:Nat,v15=.int .i64 (k:Int)∧k≤3∧Hid (1≤k→ae h [98,97,99,107]=false)∧Hid (2≤k→ae h [108,101,97,118,101]=false)∧Hid (3≤k→ae h [110,101,120,116]=false)∧ai w1 wr) (fun _ v15 _=>3-(intOf v15).toNat)
 case atStart=>exact⟨0,rfl,by omega,fun hk=>absurd hk (by omega),fun hk=>absurd hk (by omega),fun hk=>absurd hk (by omega),Below.refl _ _⟩
 case round =>
  obtain⟨k,rfl,hk,H1,H2,H3,hBr⟩:=hrel;obtain⟨hwz,c0,c1,c2⟩:=hW1.call hBr;have hh2:=(hBr.cell (p:=⟨g,o+1,none⟩) hgz).trans hh1;obtain rfl|rfl|rfl|rfl:k=0∨k=1∨k=2∨k=3:=by omega
  ·
   cases hq:ae h [98,97,99,107]
   ·have HQ:=aj hq;have hl:(bm.toList==h.toList)=false:=by
     rw[show bm.toList=[98,97,99,107]from bE _];unfold ae at hq;rw[beq_eq_false_iff_ne]at hq ⊢;exact fun e=>hq e.symm
    clear hq;have hT:fB w1 g (o+1) h wr:=⟨hh2,Nat.lt_of_lt_of_le hgz hBr.size,hBr⟩;clear hh2 hBr hwz;go_upto_region 5 with fail
    go_region_held3 (fun x=>x.cell? ⟨g,o+1,none⟩=some (.string h)∧g<x.heap.size∧ai w1 x)
     ((show fB w1 g (o+1) h _;first|(with_reducible exact hT3)|(with_reducible exact hT.drew)))
     (first
      |(go_at_call 247;refine(xD _ _).mono ?_;rintro e w3 ⟨rfl,hb3⟩;have hT3:=fB.call hT.drew hb3)
      |fail)
    all_goals go_wp2
    all_goals go_roundw
    case rel=>exact⟨1,by go_num,by omega,fun _=>(by first|exact HQ.out|trivial),fun hk=>absurd hk (by omega),fun hk=>absurd hk (by omega),hT3.2.2⟩
    case measure=>simp[intOf]
   ·have HV:Hid ((.iface 155 (.agg #[.slice (some ⟨g,o+2,none⟩) (n-3) (c-2)]):Value)=T∧true=B):=by
     show(.iface 155 (.agg #[.slice (some ⟨g,o+2,none⟩) (n-3) (c-2)]):Value)=T∧true=B;rw[←HT.out,←HB.out];unfold gd gP;rw[hq];exact⟨rfl,rfl⟩
    have hl:(bm.toList==h.toList)=true:=by
     rw[show bm.toList=[98,97,99,107]from bE _];unfold ae at hq;rw[beq_iff_eq]at hq ⊢;exact hq.symm
    clear hq
    have hT:fB w1 g (o+1) h wr:=⟨hh2,Nat.lt_of_lt_of_le hgz hBr.size,hBr⟩
    clear hh2 hBr hwz
    go_upto_region 5 with fail
    go_region_held3 (fun x=>x.cell? ⟨g,o+1,none⟩=some (.string h)∧g<x.heap.size∧ai w1 x)
     ((show fB w1 g (o+1) h _;first|(with_reducible exact hT3)|(with_reducible exact hT.drew)))
     (first
      |(go_at_call 247;refine(xD _ _).mono ?_;rintro e w3 ⟨rfl,hb3⟩;have hT3:=fB.call hT.drew hb3)
      |fail)
    all_goals go_wp2
    all_goals go_ret2
    all_goals exact⟨by rw[←HV.out.1,←HV.out.2];rfl,hb1.trans (hT3.2.2.mono hb1.size)⟩
  ·
   have P0:Hid (ae h [98,97,99,107]=false):=H1.out (by omega)
   cases hq:ae h [108,101,97,118,101]
   ·have HQ:=aj hq;have hl:(dL.toList==h.toList)=false:=by
     rw[show dL.toList=[108,101,97,118,101]from bE _];unfold ae at hq;rw[beq_eq_false_iff_ne]at hq ⊢;exact fun e=>hq e.symm
    clear hq;have hT:fB w1 g (o+1) h wr:=⟨hh2,Nat.lt_of_lt_of_le hgz hBr.size,hBr⟩;clear hh2 hBr hwz;go_upto_region 5 with fail
    go_region_held3 (fun x=>x.cell? ⟨g,o+1,none⟩=some (.string h)∧g<x.heap.size∧ai w1 x)
     ((show fB w1 g (o+1) h _;first|(with_reducible exact hT3)|(with_reducible exact hT.drew)))
     (first
      |(go_at_call 250;refine(xE _).mono ?_;rintro e w3 ⟨rfl,hb3⟩;have hT3:=fB.call hT.drew hb3)
      |fail)
    all_goals go_wp2
    all_goals go_roundw
    case rel=>exact⟨2,by go_num,by omega,fun _=>P0.out,fun _=>(by first|exact HQ.out|trivial),fun hk=>absurd hk (by omega),hT3.2.2⟩
    case measure=>simp[intOf]
   ·have HV:Hid ((.iface 157 (.agg #[]):Value)=T∧true=B):=by
     show(.iface 157 (.agg #[]):Value)=T∧true=B;rw[←HT.out,←HB.out];unfold gd gP;rw[P0.out,hq];exact⟨rfl,rfl⟩
    have hl:(dL.toList==h.toList)=true:=by
     rw[show dL.toList=[108,101,97,118,101]from bE _];unfold ae at hq;rw[beq_iff_eq]at hq ⊢;exact hq.symm
    clear hq
    have hT:fB w1 g (o+1) h wr:=⟨hh2,Nat.lt_of_lt_of_le hgz hBr.size,hBr⟩
    clear hh2 hBr hwz
    go_upto_region 5 with fail
    go_region_held3 (fun x=>x.cell? ⟨g,o+1,none⟩=some (.string h)∧g<x.heap.size∧ai w1 x)
     ((show fB w1 g (o+1) h _;first|(with_reducible exact hT3)|(with_reducible exact hT.drew)))
     (first
      |(go_at_call 250;refine(xE _).mono ?_;rintro e w3 ⟨rfl,hb3⟩;have hT3:=fB.call hT.drew hb3)
      |fail)
    all_goals go_wp2
    all_goals go_ret2
    all_goals exact⟨by rw[←HV.out.1,←HV.out.2];rfl,hb1.trans (hT3.2.2.mono hb1.size)⟩
  ·
   have P0:Hid (ae h [98,97,99,107]=false):=H1.out (by omega)
   have P1:Hid (ae h [108,101,97,118,101]=false):=H2.out (by omega)
   cases hq:ae h [110,101,120,116]
   ·have HQ:=aj hq;have hl:(dU.toList==h.toList)=false:=by
     rw[show dU.toList=[110,101,120,116]from bE _];unfold ae at hq;rw[beq_eq_false_iff_ne]at hq ⊢;exact fun e=>hq e.symm
    clear hq;have hT:fB w1 g (o+1) h wr:=⟨hh2,Nat.lt_of_lt_of_le hgz hBr.size,hBr⟩;clear hh2 hBr hwz;go_upto_region 5 with fail
    go_region_held3 (fun x=>x.cell? ⟨g,o+1,none⟩=some (.string h)∧g<x.heap.size∧ai w1 x)
     ((show fB w1 g (o+1) h _;first|(with_reducible exact hT3)|(with_reducible exact hT.drew)))
     (first
      |(go_at_call 253;refine(xF _).mono ?_;rintro e w3 ⟨rfl,hb3⟩;have hT3:=fB.call hT.drew hb3)
      |fail)
    all_goals go_wp2
    all_goals go_roundw
    case rel=>exact⟨3,by go_num,by omega,fun _=>P0.out,fun _=>P1.out,fun _=>(by first|exact HQ.out|trivial),hT3.2.2⟩
    case measure=>simp[intOf]
   ·have HV:Hid ((.iface 158 (.agg #[]):Value)=T∧true=B):=by
     show(.iface 158 (.agg #[]):Value)=T∧true=B;rw[←HT.out,←HB.out];unfold gd gP;rw[P0.out,P1.out,hq];exact⟨rfl,rfl⟩
    have hl:(dU.toList==h.toList)=true:=by
     rw[show dU.toList=[110,101,120,116]from bE _];unfold ae at hq;rw[beq_iff_eq]at hq ⊢;exact hq.symm
    clear hq
    have hT:fB w1 g (o+1) h wr:=⟨hh2,Nat.lt_of_lt_of_le hgz hBr.size,hBr⟩
    clear hh2 hBr hwz
    go_upto_region 5 with fail
    go_region_held3 (fun x=>x.cell? ⟨g,o+1,none⟩=some (.string h)∧g<x.heap.size∧ai w1 x)
     ((show fB w1 g (o+1) h _;first|(with_reducible exact hT3)|(with_reducible exact hT.drew)))
     (first
      |(go_at_call 253;refine(xF _).mono ?_;rintro e w3 ⟨rfl,hb3⟩;have hT3:=fB.call hT.drew hb3)
      |fail)
    all_goals go_wp2
    all_goals go_ret2
    all_goals exact⟨by rw[←HV.out.1,←HV.out.2];rfl,hb1.trans (hT3.2.2.mono hb1.size)⟩
  ·have HV:Hid ((.nilIface:Value)=T∧false=B):=by
    show(.nilIface:Value)=T∧false=B;rw[←HT.out,←HB.out];unfold gd gP;rw[H1.out (by omega),H2.out (by omega),H3.out (by omega)];exact⟨rfl,rfl⟩
   clear H1 H2 H3
   go_wp2
   go_ret2
   exact⟨by rw[←HV.out.1,←HV.out.2];rfl,hb1.trans (hBr.mono hb1.size)⟩
end Go.Proofs.YtdojfommmpnbgaaGreatDoor
