import Derived.Test.YtdojfommmpnbgaaGreatDoorKAA
import Derived.WalkSpells
import Derived.WalkLawsBesides
import Derived.Handy
import Derived.Deep.RegionHeld3
import Derived.Deep.DeepCutAuto
import Derived.Deep.QuietTactic
import Derived.BigQuiet
namespace Go.Proofs.YtdojfommmpnbgaaGreatDoor
open Go.RowKit
def fO(B:Nat)(v0 v1 v2:Value)(x:World):Prop:=x.cell? ⟨B,0,none⟩=some v0∧x.cell? ⟨B,1,none⟩=some v1∧x.cell? ⟨B,2,none⟩=some v2∧B<x.heap.size
theorem fO.call{B:Nat}{v0 v1 v2:Value}{W w1:World}(h:fO B v0 v1 v2 W)(hb:ai W w1):fO B v0 v1 v2 w1:=by
 obtain⟨h0,h1,h2,hz⟩:=h;exact⟨(hb.cell (p:=⟨B,0,none⟩) hz).trans h0,(hb.cell (p:=⟨B,1,none⟩) hz).trans h1,(hb.cell (p:=⟨B,2,none⟩) hz).trans h2,Nat.lt_of_lt_of_le hz hb.size⟩
theorem fO.drew{B:Nat}{v0 v1 v2:Value}{W:World}(h:fO B v0 v1 v2 W):fO B v0 v1 v2 W.drew:=h
theorem fO.alloc{B:Nat}{v0 v1 v2:Value}{W:World}(h:fO B v0 v1 v2 W)(o:Obj):fO B v0 v1 v2 (W.alloc o) :=
 h.call ((Below.refl _ _).alloc (Nat.le_refl _) o)
theorem fO.set{B:Nat}{v0 v1 v2:Value}{W:World}(h:fO B v0 v1 v2 W){p:Addr}(u:Value)(hp:B≠p.block):fO B v0 v1 v2 (W.setCell p u):=by
 obtain⟨h0,h1,h2,hz⟩:=h;have hk:∀o,(W.setCell p u).cell? ⟨B,o,none⟩=W.cell? ⟨B,o,none⟩:=fun o=>World.cell?_of_block (w:=W) (Below.heap_setCell W p u B hp)
 exact⟨(hk 0).trans h0,(hk 1).trans h1,(hk 2).trans h2,by simpa[World.setCell]using hz⟩
theorem xw(w:World)(v0 v1 v2:Value)(T:TypeId):fO w.heap.size v0 v1 v2 (w.alloc (.cells #[v0,v1,v2] T)):=kF w v0 v1 v2 T
def Own(B:Nat)(x:World):Prop:=(∃v0,x.cell? ⟨B,0,none⟩=some v0)∧(∃v1,x.cell? ⟨B,1,none⟩=some v1)∧(∃v2,x.cell? ⟨B,2,none⟩=some v2)∧x.frozen? ⟨B,0,none⟩=false∧x.frozen? ⟨B,1,none⟩=false∧x.frozen? ⟨B,2,none⟩=false∧B<x.heap.size
theorem Own.call{B:Nat}{W w1:World}(h:Own B W)(hb:ai W w1):Own B w1:=by
 obtain⟨⟨v0,h0⟩,⟨v1,h1⟩,⟨v2,h2⟩,f0,f1,f2,hz⟩:=h;exact⟨⟨v0,(hb.cell (p:=⟨B,0,none⟩) hz).trans h0⟩,⟨v1,(hb.cell (p:=⟨B,1,none⟩) hz).trans h1⟩,⟨v2,(hb.cell (p:=⟨B,2,none⟩) hz).trans h2⟩,(hb.frozen (p:=⟨B,0,none⟩) hz).trans f0,(hb.frozen (p:=⟨B,1,none⟩) hz).trans f1,(hb.frozen (p:=⟨B,2,none⟩) hz).trans f2,Nat.lt_of_lt_of_le hz hb.size⟩
theorem wA(w:World)(v0 v1 v2:Value)(T:TypeId):Own w.heap.size (w.alloc (.cells #[v0,v1,v2] T)):=by
 obtain⟨h0,h1,h2,hz⟩:=xw w v0 v1 v2 T;exact⟨⟨_,h0⟩,⟨_,h1⟩,⟨_,h2⟩,by simp[go_sem],by simp[go_sem],by simp[go_sem],hz⟩
theorem Own.drew{B:Nat}{W:World}(h:Own B W):Own B W.drew:=h
theorem Own.set{B:Nat}{W:World}(h:Own B W)(u0 u1 u2:Value):fO B u0 u1 u2 (((W.setCell ⟨B,0,none⟩ u0).setCell ⟨B,1,none⟩ u1).setCell ⟨B,2,none⟩ u2):=by
 obtain⟨⟨v0,h0⟩,⟨v1,h1⟩,⟨v2,h2⟩,f0,f1,f2,hz⟩:=h;refine⟨?_,?_,?_,?_⟩<;>simp[go_sem,h0,h1,h2,hz]
def je(w:World)(a0 a1 a2 b0 b1 b2:Value)(x:World):Prop:=fO w.heap.size a0 a1 a2 x∧fO (w.heap.size+1) b0 b1 b2 x∧ai w x
section
variable {w W w1:World} {a0 a1 a2 b0 b1 b2:Value}
theorem je.call(h:je w a0 a1 a2 b0 b1 b2 W)(hb:ai W w1):je w a0 a1 a2 b0 b1 b2 w1:=⟨h.1.call hb,h.2.1.call hb,aw h.2.2 hb⟩
theorem je.drew(h:je w a0 a1 a2 b0 b1 b2 W):je w a0 a1 a2 b0 b1 b2 W.drew:=⟨h.1,h.2.1,h.2.2.drew⟩
theorem je.alloc(h:je w a0 a1 a2 b0 b1 b2 W)(o:Obj):je w a0 a1 a2 b0 b1 b2 (W.alloc o):=⟨h.1.alloc o,h.2.1.alloc o,ay h.2.2 o⟩
theorem je.lt(h:je w a0 a1 a2 b0 b1 b2 W):w.heap.size+1<W.heap.size:=h.2.1.2.2.2
theorem je.set(h:je w a0 a1 a2 b0 b1 b2 W){p:Addr}(u:Value)(hp:w.heap.size+1<p.block):je w a0 a1 a2 b0 b1 b2 (W.setCell p u) :=
 ⟨h.1.set u (by omega),h.2.1.set u (by omega),bf h.2.2 u (by omega)⟩
end
def kC(w:World)(a0 a1 a2 b0 b1 b2:Value)(B:Nat)(c0 c1 c2:Value)(x:World):Prop:=je w a0 a1 a2 b0 b1 b2 x∧fO B c0 c1 c2 x
section
variable {w W w1:World} {a0 a1 a2 b0 b1 b2 c0 c1 c2:Value} {B:Nat}
theorem kC.call(h:kC w a0 a1 a2 b0 b1 b2 B c0 c1 c2 W)(hb:ai W w1):kC w a0 a1 a2 b0 b1 b2 B c0 c1 c2 w1:=⟨h.1.call hb,h.2.call hb⟩
theorem kC.drew(h:kC w a0 a1 a2 b0 b1 b2 B c0 c1 c2 W):kC w a0 a1 a2 b0 b1 b2 B c0 c1 c2 W.drew:=⟨h.1.drew,h.2.drew⟩
theorem kC.alloc(h:kC w a0 a1 a2 b0 b1 b2 B c0 c1 c2 W)(o:Obj):kC w a0 a1 a2 b0 b1 b2 B c0 c1 c2 (W.alloc o):=⟨h.1.alloc o,h.2.alloc o⟩
theorem kC.lt(h:kC w a0 a1 a2 b0 b1 b2 B c0 c1 c2 W):w.heap.size+1<W.heap.size∧B<W.heap.size:=⟨h.1.lt,h.2.2.2.2⟩
end
def az(c:Nat)(w w':World):Prop:=w'.os=w.os∧w'.tape=w.tape∧w'.output=w.output∧w.heap.size≤w'.heap.size∧∀k,k<w.heap.size→k≠c→w'.heap[k]?=w.heap[k]?
theorem az.refl(c:Nat)(w:World):az c w w:=⟨rfl,rfl,rfl,Nat.le_refl _,fun _ _ _=>rfl⟩
theorem az.trans{c:Nat}{u v w:World}(h:az c u v)(k:az c v w):az c u w :=
 ⟨k.1.trans h.1,k.2.1.trans h.2.1,k.2.2.1.trans h.2.2.1,Nat.le_trans h.2.2.2.1 k.2.2.2.1,fun i hi hc=>(k.2.2.2.2 i (Nat.lt_of_lt_of_le hi h.2.2.2.1) hc).trans (h.2.2.2.2 i hi hc)⟩
theorem az.j{c:Nat}{w w':World}(h:ai w w'):az c w w':=⟨h.os,h.tape,h.output,h.size,fun k hk _=>h.block k hk⟩
theorem az.drew{c:Nat}{u w:World}(h:az c u w):az c u w.drew:=h
theorem az.drewN{c:Nat}{u w:World}(h:az c u w)(n:Nat):az c u (w.drewN n):=h
theorem az.alloc{c:Nat}{u w:World}(h:az c u w)(o:Obj):az c u (w.alloc o):=h.trans (.j ((Below.refl _ _).alloc (Nat.le_refl _) o))
theorem az.setCur{c:Nat}{u w:World}(h:az c u w)(o:Nat)(v:Value):az c u (w.setCell ⟨c,o,none⟩ v) :=
 h.trans ⟨rfl,rfl,rfl,by simp[World.setCell],fun k _ hc=>Below.heap_setCell w ⟨c,o,none⟩ v k hc⟩
theorem az.OX{c:Nat}{u w:World}(h:az c u w){p:Addr}(v:Value)(hp:u.heap.size≤p.block):az c u (w.setCell p v) :=
 ⟨h.1,h.2.1,h.2.2.1,by simpa[World.setCell]using h.2.2.2.1,fun k hk hc=>(Below.heap_setCell w p v k (by omega)).trans (h.2.2.2.2 k hk hc)⟩
theorem az.call{c:Nat}{u w w1:World}(h:az c u w)(hb:az c w w1):az c u w1:=h.trans hb
theorem az.below{c:Nat}{u w w1:World}(h:ai u w)(hc:u.heap.size≤c)(hb:az c w w1):ai u w1 :=
 h.trans ⟨hb.1,hb.2.1,hb.2.2.1,hb.2.2.2.1,fun k hk=>hb.2.2.2.2 k (Nat.lt_of_lt_of_le hk h.size) (by omega)⟩
theorem az.cell{c:Nat}{w w1:World}(hb:az c w w1)(b o:Nat)(h:b<w.heap.size)(hn:b≠c):w1.cell? ⟨b,o,none⟩=w.cell? ⟨b,o,none⟩:=World.cell?_of_block (w:=w) (a:=⟨b,o,none⟩) (hb.2.2.2.2 b h hn)
theorem az.frozen{c:Nat}{w w1:World}(hb:az c w w1)(b o:Nat)(h:b<w.heap.size)(hn:b≠c):w1.frozen? ⟨b,o,none⟩=w.frozen? ⟨b,o,none⟩:=World.frozen?_of_block (w:=w) (a:=⟨b,o,none⟩) (hb.2.2.2.2 b h hn)
def Code(B:Nat)(a:Option Addr)(len:Nat)(w:World):Prop:=∀j,j<len→∃sb off x,a=some ⟨sb,off,none⟩∧sb<B∧w.cell? ⟨sb,off+j,none⟩=some (.int .u8 x)∧0≤x∧x≤255
theorem Code.but{c:Nat}{a:Option Addr}{len:Nat}{w w1:World}(h:Code c a len w)(hc:c≤w.heap.size)(hb:az c w w1):Code c a len w1:=fun j hj=>by
 obtain⟨sb,off,x,ha,hs,hx,h0,h1⟩:=h j hj;exact⟨sb,off,x,ha,hs,(hb.cell sb _ (by omega) (by omega)).trans hx,h0,h1⟩
def jq(c:Nat)(a:Option Addr)(len cap:Nat)(w:World):Prop:=∃(i:Nat) (h:Int),w.cell? ⟨c,0,none⟩=some (.slice a len cap)∧w.cell? ⟨c,1,none⟩=some (.int .i64 i)∧w.cell? ⟨c,2,none⟩=some (.int .i64 h)∧i≤len ∧
 w.frozen? ⟨c,0,none⟩=false∧w.frozen? ⟨c,1,none⟩=false∧w.frozen? ⟨c,2,none⟩=false∧c<w.heap.size∧Code c a len w
theorem jq.call{c:Nat}{a:Option Addr}{len cap:Nat}{w w1:World}(h:jq c a len cap w)(hb:ai w w1):jq c a len cap w1:=by
 obtain⟨i,v,h0,h1,h2,hi,f0,f1,f2,hz,hc⟩:=h;exact⟨i,v,(hb.cell (p:=⟨c,0,none⟩) hz).trans h0,(hb.cell (p:=⟨c,1,none⟩) hz).trans h1,(hb.cell (p:=⟨c,2,none⟩) hz).trans h2,hi,(hb.frozen (p:=⟨c,0,none⟩) hz).trans f0,(hb.frozen (p:=⟨c,1,none⟩) hz).trans f1,(hb.frozen (p:=⟨c,2,none⟩) hz).trans f2,Nat.lt_of_lt_of_le hz hb.size,hc.but (Nat.le_of_lt hz) (.j hb)⟩
theorem jq.drew{c:Nat}{a:Option Addr}{len cap:Nat}{w:World}(h:jq c a len cap w):jq c a len cap w.drew:=h
theorem jq.alloc{c:Nat}{a:Option Addr}{len cap:Nat}{w:World}(h:jq c a len cap w)(o:Obj):jq c a len cap (w.alloc o):=h.call ((Below.refl _ _).alloc (Nat.le_refl _) o)
theorem jq.set{c:Nat}{a:Option Addr}{len cap:Nat}{w:World}(h:jq c a len cap w){p:Addr}(v:Value)(hp:c<p.block):jq c a len cap (w.setCell p v):=by
 obtain⟨i,u,h0,h1,h2,hi,f0,f1,f2,hz,hc⟩:=h;have hk:∀b,b<p.block→(w.setCell p v).heap[b]?=w.heap[b]?:=fun b hb=>Below.heap_setCell w p v b (by omega)
 have hcell:∀b o,b<p.block→(w.setCell p v).cell? ⟨b,o,none⟩=w.cell? ⟨b,o,none⟩:=fun b o hb=>World.cell?_of_block (w:=w) (a:=⟨b,o,none⟩) (hk b hb)
 have hfr:∀b o,b<p.block→(w.setCell p v).frozen? ⟨b,o,none⟩=w.frozen? ⟨b,o,none⟩:=fun b o hb=>World.frozen?_of_block (w:=w) (a:=⟨b,o,none⟩) (hk b hb)
 refine⟨i,u,(hcell c 0 hp).trans h0,(hcell c 1 hp).trans h1,(hcell c 2 hp).trans h2,hi,(hfr c 0 hp).trans f0,(hfr c 1 hp).trans f1,(hfr c 2 hp).trans f2,by simpa[World.setCell]using hz,fun j hj=>?_⟩;obtain⟨sb,off,x,ha,hs,hx,hx0,hx1⟩:=hc j hj;exact⟨sb,off,x,ha,hs,(hcell sb _ (by omega)).trans hx,hx0,hx1⟩
theorem jq.lt{c:Nat}{a:Option Addr}{len cap:Nat}{w:World}(h:jq c a len cap w):c<w.heap.size:=by
 obtain⟨_,_,_,_,_,_,_,_,_,hz,_⟩:=h;exact hz
theorem Own.but{B c:Nat}{w w1:World}(h:Own B w)(hb:az c w w1)(hn:B≠c):Own B w1:=by
 obtain⟨⟨v0,h0⟩,⟨v1,h1⟩,⟨v2,h2⟩,f0,f1,f2,hz⟩:=h;exact⟨⟨v0,(hb.cell B 0 hz hn).trans h0⟩,⟨v1,(hb.cell B 1 hz hn).trans h1⟩,⟨v2,(hb.cell B 2 hz hn).trans h2⟩,(hb.frozen B 0 hz hn).trans f0,(hb.frozen B 1 hz hn).trans f1,(hb.frozen B 2 hz hn).trans f2,Nat.lt_of_lt_of_le hz hb.2.2.2.1⟩
theorem Own.alloc{B:Nat}{w:World}(h:Own B w)(o:Obj):Own B (w.alloc o):=h.call ((Below.refl _ _).alloc (Nat.le_refl _) o)
theorem fO.but{B c:Nat}{v0 v1 v2:Value}{w w1:World}(h:fO B v0 v1 v2 w)(hb:az c w w1)(hn:B≠c):fO B v0 v1 v2 w1:=by
 obtain⟨h0,h1,h2,hz⟩:=h;exact⟨(hb.cell B 0 hz hn).trans h0,(hb.cell B 1 hz hn).trans h1,(hb.cell B 2 hz hn).trans h2,Nat.lt_of_lt_of_le hz hb.2.2.2.1⟩
end Go.Proofs.YtdojfommmpnbgaaGreatDoor
