import Derived.Test.YtdgihicpjonjgaaGreatDoorZRdR
import Derived.Test.YtdgihicpjonjgaaGreatDoorZMaps
import Derived.WalkSmall
import Derived.BigRegion
import Derived.RegionTactic
import Derived.Deep.QuietTactic
import Derived.BigQuiet
import Derived.Deep.RegionLaw
import Derived.Maps.Own
import Derived.Deep.CutRange
import Derived.Deep.Cut
namespace Go.Proofs.YtdgihicpjonjgaaGreatDoor
open Go.RowKit
def flatU (us:List (Int × Int × Bool)):List Value:=us.flatMap fun u=>[.int .i64 u.1,.int .i64 u.2.1,.bool u.2.2]
theorem flatU_snoc (us:List (Int × Int × Bool)) (u:Int × Int × Bool):flatU (us++[u])=flatU us++[.int .i64 u.1,.int .i64 u.2.1,.bool u.2.2]:=by
 unfold flatU
 rw [List.flatMap_append]
 rfl
def selU (L:List ByteArray) (us:List (Int × Int × Bool)) (q:Bool):List ByteArray:=(us.filter fun u=>u.2.1 == -1 && u.2.2 == q).map fun u=>sgAt L u.1
structure RdX where
 vb:Value
 vu:Value
 bs:List Nat
 us:List (Int × Int × Bool)
 fu:Bool
 ft:Bool
 fo:Bool
 fv:Bool
abbrev Blks:=List (List ByteArray × List ByteArray)
structure MemR (S:Nat→Prop) (c:Nat) (va:Value) (x:RdX) (E:Blks) (w:World):Prop where
 lt:c < w.heap.size
 own:S c
 c0:w.cell? ⟨c,0,none⟩=some va
 c1:w.cell? ⟨c,1,none⟩=some x.vb
 c2:w.cell? ⟨c,2,none⟩=some (.int .i64 (E.length:Int))
 c3:w.cell? ⟨c,3,none⟩=some x.vu
 c4:w.cell? ⟨c,4,none⟩=some (.bool x.fu)
 c5:w.cell? ⟨c,5,none⟩=some (.bool x.ft)
 c6:w.cell? ⟨c,6,none⟩=some (.bool x.fo)
 c7:w.cell? ⟨c,7,none⟩=some (.bool x.fv)
 fz:∀ o,w.frozen? ⟨c,o,none⟩=false
 rowB:w.ownsRow (c+1) 126 1 x.vb x.bs.length (x.bs.map fun b=>.map (some b))
 rowU:w.ownsRow (c+1) 108 3 x.vu x.us.length (flatU x.us)
 inb:∀ g,x.vb.ownBlock=some g→S g
 inu:∀ g,x.vu.ownBlock=some g→S g
 apart:∀ g,x.vb.ownBlock=some g→x.vu.ownBlock≠some g
 maps:∀ j (h:j < x.bs.length),S x.bs[j]∧MapP w x.bs[j] (E.getD j ([],[])).1 (E.getD j ([],[])).2
 nodup:x.bs.Nodup
 enough:E.length≤x.bs.length
 low:∀ k,S k→c≤k∧k < w.heap.size
 few:x.bs.length≤20000
structure SaidR (L:List ByteArray) (x:RdX) (F:Ot) (U:Nat):Prop where
 fr:selU L x.us false=F.fr
 sc:selU L x.us true=F.sc
 unk:x.fu=(!F.fr.isEmpty || !F.sc.isEmpty)
 bad:(x.ft || (x.fo || x.fv))=F.bad
 cnt:x.us.length≤U
 inL:∀ u∈x.us,0≤u.1∧u.1 < (L.length:Int)
def St (S:Nat→Prop) (c:Nat) (a:Option Addr) (cap:Nat) (L:List ByteArray) (E:Blks) (F:Ot) (U:Nat) (w:World):Prop:=(∃ x,MemR S c (.slice a L.length cap) x E w∧SaidR L x F U)∧ArgS S w a L
section
variable {S:Nat→Prop} {c:Nat} {va:Value} {x:RdX} {E:Blks} {w w':World}
theorem MemR.keep (h:MemR S c va x E w) (hk:∀ k,S k→w'.heap[k]?=w.heap[k]?) (hz:w.heap.size≤w'.heap.size):MemR S c va x E w':=by
 have hc:=hk c h.own
 have hcell:∀ o,w'.cell? ⟨c,o,none⟩=w.cell? ⟨c,o,none⟩:=fun o=>World.cell?_of_block (w:=w) (a:=⟨c,o,none⟩) hc
 have hfz:∀ o,w'.frozen? ⟨c,o,none⟩=w.frozen? ⟨c,o,none⟩:=fun o=>World.frozen?_of_block (w:=w) (a:=⟨c,o,none⟩) hc
 exact { lt:=Nat.lt_of_lt_of_le h.lt hz,own:=h.own,c0:=(hcell 0).trans h.c0,c1:=(hcell 1).trans h.c1,c2:=(hcell 2).trans h.c2,c3:=(hcell 3).trans h.c3,c4:=(hcell 4).trans h.c4,c5:=(hcell 5).trans h.c5,c6:=(hcell 6).trans h.c6,c7:=(hcell 7).trans h.c7,fz:=fun o=>(hfz o).trans (h.fz o),rowB:=own_kept h.rowB (fun g hg=>hk g (h.inb g hg)),rowU:=own_kept h.rowU (fun g hg=>hk g (h.inu g hg)),inb:=h.inb,inu:=h.inu,apart:=h.apart,maps:=fun j hj=>⟨(h.maps j hj).1,(h.maps j hj).2.keep (hk _ (h.maps j hj).1)⟩,nodup:=h.nodup,enough:=h.enough,low:=fun k hs=>⟨(h.low k hs).1,Nat.lt_of_lt_of_le (h.low k hs).2 hz⟩,few:=h.few }
theorem MemR.call (h:MemR S c va x E w) (hb:Below w.heap.size w w'):MemR S c va x E w':=h.keep (fun k hs=>hb.block k (h.low k hs).2) hb.size
theorem St.call {a:Option Addr} {cap:Nat} {L:List ByteArray} {F:Ot} {U:Nat} (h:St S c a cap L E F U w) (hb:Below w.heap.size w w'):St S c a cap L E F U w':=by
 obtain ⟨⟨x,hM,hS⟩,hA⟩:=h
 exact ⟨⟨x,hM.call hb,hS⟩,hA.nxt (Nxt.of_below S hb)⟩
theorem MapP.not_c {b:Nat} {X Y:List ByteArray} {v:Value} (h:MapP w b X Y) (hc:w.cell? ⟨c,0,none⟩=some v):b≠c:=by
 rintro rfl
 obtain ⟨es,clock,hb,_⟩:=h
 simp [World.cell?,hb] at hc
theorem MapP.set {b:Nat} {X Y:List ByteArray} {v:Value} (h:MapP w b X Y) (hc:w.cell? ⟨c,0,none⟩=some v) (o:Nat) (u:Value):MapP (w.setCell ⟨c,o,none⟩ u) b X Y :=
 h.keep (Below.heap_setCell w ⟨c,o,none⟩ u b (h.not_c hc))
end
end Go.Proofs.YtdgihicpjonjgaaGreatDoor
namespace Go.Proofs.YtdgihicpjonjgaaGreatDoor
open Go.RowKit
section
variable {S:Nat→Prop} {c:Nat} {va:Value} {x:RdX} {E:Blks} {w:World}
theorem own_shape {w:World} {B:Nat} {e:TypeId} {sz n:Nat} {v:Value} {xs:List Value} (h:w.ownsRow B e sz v n xs):∃ av cv,v=.slice av n cv∧n≤cv∧cv≤maxLen∧(av=none→n=0)∧∀ p,av=some p→∃ g,p=⟨g,0,none⟩∧v.ownBlock=some g:=by
 rcases h.2 with ⟨rfl,rfl⟩ | ⟨g,cap,cur,rfl,_,_,h1,h2,_⟩
 ·exact ⟨none,0,rfl,Nat.le_refl _,Nat.zero_le _,fun _=>rfl,fun p hp=>by cases hp⟩
 ·exact ⟨some ⟨g,0,none⟩,cap,rfl,h1,h2,(fun h=>by cases h),(fun p hp=>by cases hp;exact ⟨g,rfl,rfl⟩)⟩
end
theorem Nxt.drewN (S:Nat→Prop) (w:World) (n:Nat):Nxt S S w (w.drewN n):=⟨rfl,rfl,rfl,Nat.le_refl _,fun _ _ _=>rfl,fun _ h=>Or.inl h⟩
theorem MemR.drewN {S:Nat→Prop} {c:Nat} {va:Value} {x:RdX} {E:Blks} {w:World} (h:MemR S c va x E w) (n:Nat):MemR S c va x E (w.drewN n):=h.keep (fun _ _=>rfl) (Nat.le_refl _)
end Go.Proofs.YtdgihicpjonjgaaGreatDoor
namespace Go.Proofs.YtdgihicpjonjgaaGreatDoor
open Go.RowKit
def clrW (W:World) (b clock:Nat):World:={ W with heap:=W.heap.setIfInBounds b (.map #[] clock) }
section
variable {S:Nat→Prop} {c:Nat} {va:Value} {x:RdX} {E:Blks} {w:World}
end
end Go.Proofs.YtdgihicpjonjgaaGreatDoor
namespace Go.Proofs.YtdgihicpjonjgaaGreatDoor
open Go.RowKit
section
variable {S:Nat→Prop} {c:Nat} {va:Value} {x:RdX} {E:Blks} {w:World}
end
end Go.Proofs.YtdgihicpjonjgaaGreatDoor
namespace Go.Proofs.YtdgihicpjonjgaaGreatDoor
open Go.RowKit
section
variable {S:Nat→Prop} {c:Nat} {va:Value} {x:RdX} {E:Blks} {w:World}
end
end Go.Proofs.YtdgihicpjonjgaaGreatDoor
