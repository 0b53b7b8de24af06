import Derived.Test.YtdojfommmpnbgaaGreatDoorKAR
import Derived.WalkSmall
import Derived.BigRegion
import Derived.RegionTactic
import Derived.Deep.QuietTactic
import Derived.BigQuiet
import Derived.Deep.RegionLaw
import Derived.Maps.Own
import Derived.Deep.CutRange
import Derived.Deep.Cut
namespace Go.Proofs.YtdojfommmpnbgaaGreatDoor
open Go.RowKit
def gW(us:List (Int × Int × Bool)):List Value:=us.flatMap fun u=>[.int .i64 u.1,.int .i64 u.2.1,.bool u.2.2]
theorem Fp(us:List (Int × Int × Bool))(u:Int × Int × Bool):gW (us++[u])=gW us++[.int .i64 u.1,.int .i64 u.2.1,.bool u.2.2]:=by
 unfold gW;rw[List.flatMap_append];rfl
def fK(L:af)(us:List (Int × Int × Bool))(q:Bool):af:=(us.filter fun u=>u.2.1 == -1&&u.2.2==q).map fun u=>aa L u.1
structure fA where
 vb:Value
 vu:Value
 bs:List Nat
 us:List (Int × Int × Bool)
 fu:Bool
 ft:Bool
 fo:Bool
 fv:Bool
abbrev bj:=List (af × af)
structure bq (S:Nat→Prop) (c:Nat) (va:Value) (x:fA) (E:bj) (w:World):Prop where
 lt:c<w.heap.size
 own:S c
 c0:w.cell? ⟨c,0,none⟩=some va
 c1:w.cell? ⟨c,1,none⟩=some x.vb
 c2:w.cell? ⟨c,2,none⟩=some (.int .i64 (E.length:Int))
 c3:w.cell? ⟨c,3,none⟩=some x.vu
 c4:w.cell? ⟨c,4,none⟩=some (.bool x.fu)
 c5:w.cell? ⟨c,5,none⟩=some (.bool x.ft)
 c6:w.cell? ⟨c,6,none⟩=some (.bool x.fo)
 c7:w.cell? ⟨c,7,none⟩=some (.bool x.fv)
 fz:∀o,w.frozen? ⟨c,o,none⟩=false
 rowB:w.ownsRow (c+1) 178 1 x.vb x.bs.length (x.bs.map fun b=>.map (some b))
 rowU:w.ownsRow (c+1) 142 3 x.vu x.us.length (gW x.us)
 inb:∀g,x.vb.ownBlock=some g→S g
 inu:∀g,x.vu.ownBlock=some g→S g
 apart:∀g,x.vb.ownBlock=some g→x.vu.ownBlock≠some g
 maps:∀j (h:j<x.bs.length),S x.bs[j]∧ct w x.bs[j] (E.getD j ([],[])).1 (E.getD j ([],[])).2
 nodup:x.bs.Nodup
 enough:E.length≤x.bs.length
 low:∀k,S k→c≤k∧k<w.heap.size
 few:x.bs.length≤20000
structure la (L:af) (x:fA) (F:Ot) (U:Nat):Prop where
 fr:fK L x.us false=F.fr
 sc:fK L x.us true=F.sc
 unk:x.fu=(!F.fr.isEmpty||!F.sc.isEmpty)
 bad:(x.ft||(x.fo||x.fv))=F.bad
 cnt:x.us.length≤U
 inL:∀u∈x.us,0≤u.1∧u.1<(L.length:Int)
def St(S:Nat→Prop)(c:Nat)(a:Option Addr)(cap:Nat)(L:af)(E:bj)(F:Ot)(U:Nat)(w:World):Prop:=(∃x,bq S c (.slice a L.length cap) x E w∧la L x F U)∧j9 S w a L
section
variable {S:Nat→Prop} {c:Nat} {va:Value} {x:fA} {E:bj} {w w':World}
theorem bq.R(h:bq S c va x E w)(hk:∀k,S k→w'.heap[k]?=w.heap[k]?)(hz:w.heap.size≤w'.heap.size):bq S c va x E w':=by
 have hc:=hk c h.own;have hcell:∀o,w'.cell? ⟨c,o,none⟩=w.cell? ⟨c,o,none⟩:=fun o=>World.cell?_of_block (w:=w) (a:=⟨c,o,none⟩) hc
 have hfz:∀o,w'.frozen? ⟨c,o,none⟩=w.frozen? ⟨c,o,none⟩:=fun o=>World.frozen?_of_block (w:=w) (a:=⟨c,o,none⟩) hc
 exact { lt:=Nat.lt_of_lt_of_le h.lt hz,own:=h.own,c0:=(hcell 0).trans h.c0,c1:=(hcell 1).trans h.c1,c2:=(hcell 2).trans h.c2,c3:=(hcell 3).trans h.c3,c4:=(hcell 4).trans h.c4,c5:=(hcell 5).trans h.c5,c6:=(hcell 6).trans h.c6,c7:=(hcell 7).trans h.c7,fz:=fun o=>(hfz o).trans (h.fz o),rowB:=cR h.rowB (fun g hg=>hk g (h.inb g hg)),rowU:=cR h.rowU (fun g hg=>hk g (h.inu g hg)),inb:=h.inb,inu:=h.inu,apart:=h.apart,maps:=fun j hj=>⟨(h.maps j hj).1,(h.maps j hj).2.R (hk _ (h.maps j hj).1)⟩,nodup:=h.nodup,enough:=h.enough,low:=fun k hs=>⟨(h.low k hs).1,Nat.lt_of_lt_of_le (h.low k hs).2 hz⟩,few:=h.few }
theorem bq.call(h:bq S c va x E w)(hb:ai w w'):bq S c va x E w':=h.R (fun k hs=>hb.block k (h.low k hs).2) hb.size
theorem St.call{a:Option Addr}{cap:Nat}{L:af}{F:Ot}{U:Nat}(h:St S c a cap L E F U w)(hb:ai w w'):St S c a cap L E F U w':=by
 obtain⟨⟨x,hM,hS⟩,hA⟩:=h;exact⟨⟨x,hM.call hb,hS⟩,hA.OH (aE.j S hb)⟩
theorem ct.OS{b:Nat}{X Y:af}{v:Value}(h:ct w b X Y)(hc:w.cell? ⟨c,0,none⟩=some v):b≠c:=by
 rintro rfl;obtain⟨es,clock,hb,_⟩:=h;simp[World.cell?,hb]at hc
theorem ct.set{b:Nat}{X Y:af}{v:Value}(h:ct w b X Y)(hc:w.cell? ⟨c,0,none⟩=some v)(o:Nat)(u:Value):ct (w.setCell ⟨c,o,none⟩ u) b X Y :=
 h.R (Below.heap_setCell w ⟨c,o,none⟩ u b (h.OS hc))
end
section
variable {S:Nat→Prop} {c:Nat} {va:Value} {x:fA} {E:bj} {w:World}
theorem iM{w:World}{B:Nat}{e:TypeId}{sz n:Nat}{v:Value}{xs:List Value}(h:w.ownsRow B e sz v n xs):∃av cv,v=.slice av n cv∧n≤cv∧cv≤maxLen∧(av=none→n=0)∧∀p,av=some p→∃g,p=⟨g,0,none⟩∧v.ownBlock=some g:=by
 rcases h.2 with⟨rfl,rfl⟩|⟨g,cap,cur,rfl,_,_,h1,h2,_⟩
 ·exact⟨none,0,rfl,Nat.le_refl _,Nat.zero_le _,fun _=>rfl,fun p hp=>by cases hp⟩
 ·exact⟨some ⟨g,0,none⟩,cap,rfl,h1,h2,(fun h=>by cases h),(fun p hp=>by cases hp;exact⟨g,rfl,rfl⟩)⟩
end
theorem aE.drewN(S:Nat→Prop)(w:World)(n:Nat):aE S S w (w.drewN n):=⟨rfl,rfl,rfl,Nat.le_refl _,fun _ _ _=>rfl,fun _ h=>Or.inl h⟩
theorem bq.drewN{S:Nat→Prop}{c:Nat}{va:Value}{x:fA}{E:bj}{w:World}(h:bq S c va x E w)(n:Nat):bq S c va x E (w.drewN n):=h.R (fun _ _=>rfl) (Nat.le_refl _)
def lh(W:World)(b clock:Nat):World:={ W with heap:=W.heap.setIfInBounds b (.map #[] clock) }
section
variable {S:Nat→Prop} {c:Nat} {va:Value} {x:fA} {E:bj} {w:World}
end
section
variable {S:Nat→Prop} {c:Nat} {va:Value} {x:fA} {E:bj} {w:World}
end
section
variable {S:Nat→Prop} {c:Nat} {va:Value} {x:fA} {E:bj} {w:World}
end
end Go.Proofs.YtdojfommmpnbgaaGreatDoor
