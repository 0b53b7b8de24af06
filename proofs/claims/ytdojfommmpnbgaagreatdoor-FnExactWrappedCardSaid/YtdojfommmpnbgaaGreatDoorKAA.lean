import Derived.Test.YtdojfommmpnbgaaGreatDoorRows
import Derived.WalkKit
import Derived.Below
namespace Go.Proofs.YtdojfommmpnbgaaGreatDoor
open Go.RowKit
theorem aj{p:Prop}(h:p):Hid p:=h
abbrev ai(w w':World):Prop:=Below w.heap.size w w'
abbrev aA(v:Value)(w:World)(e:Ending)(w':World):Prop:=e=.returned v∧Below w.heap.size w w'
abbrev af:=List ByteArray
abbrev ah:=Calls Tryz.prog
theorem ki{W w1:World}(hb:ai W w1):(∀b o,b<W.heap.size→w1.cell? ⟨b,o,none⟩=W.cell? ⟨b,o,none⟩)∧(∀b o,b<W.heap.size→w1.frozen? ⟨b,o,none⟩=W.frozen? ⟨b,o,none⟩) :=
 ⟨fun b o h=>hb.cell (p:=⟨b,o,none⟩) h,fun b o h=>hb.frozen (p:=⟨b,o,none⟩) h⟩
theorem aw{w W w1:World}(h:ai w W)(hb:ai W w1):ai w w1:=h.trans (hb.mono h.size)
theorem ay{w W:World}(h:ai w W)(o:Obj):ai w (W.alloc o):=h.alloc h.size o
theorem bf{w W:World}(h:ai w W){p:Addr}(u:Value)(hp:w.heap.size≤p.block):ai w (W.setCell p u):=h.setCell hp u
theorem ev{W w1:World}{B:Nat}{v0 v1 v2:Value}(hb:ai W w1)(hB:B<W.heap.size)(h0:W.cell? ⟨B,0,none⟩=some v0)(h1:W.cell? ⟨B,1,none⟩=some v1)(h2:W.cell? ⟨B,2,none⟩=some v2) :
  w1.cell? ⟨B,0,none⟩=some v0∧w1.cell? ⟨B,1,none⟩=some v1∧w1.cell? ⟨B,2,none⟩=some v2∧B<w1.heap.size :=
 ⟨(hb.cell (p:=⟨B,0,none⟩) hB).trans h0,(hb.cell (p:=⟨B,1,none⟩) hB).trans h1,(hb.cell (p:=⟨B,2,none⟩) hB).trans h2,Nat.lt_of_lt_of_le hB hb.size⟩
theorem kF(w:World)(v0 v1 v2:Value)(T:TypeId) :
  (w.alloc (.cells #[v0,v1,v2] T)).cell? ⟨w.heap.size,0,none⟩=some v0∧(w.alloc (.cells #[v0,v1,v2] T)).cell? ⟨w.heap.size,1,none⟩=some v1∧(w.alloc (.cells #[v0,v1,v2] T)).cell? ⟨w.heap.size,2,none⟩=some v2∧w.heap.size<(w.alloc (.cells #[v0,v1,v2] T)).heap.size:=by
 refine⟨?_,?_,?_,?_⟩<;>simp[go_sem]
theorem r8{W w1:World}(hb:ai W w1)(k:Nat)(h:k<W.heap.size):k<w1.heap.size:=Nat.lt_of_lt_of_le h hb.size
def ka(i:Int):Prop:=-9223372036854775808≤i∧i≤9223372036854775807
end Go.Proofs.YtdojfommmpnbgaaGreatDoor
