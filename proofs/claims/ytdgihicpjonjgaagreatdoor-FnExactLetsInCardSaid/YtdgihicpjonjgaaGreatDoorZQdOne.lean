import Derived.Test.YtdgihicpjonjgaaGreatDoorZPlain
import Derived.Test.YtdgihicpjonjgaaGreatDoorZMaps
import Derived.Test.YtdgihicpjonjgaaGreatDoorZRdOne
import Derived.WalkSmall
import Derived.BigRegion
import Derived.RegionTactic
import Derived.Deep.QuietTactic
import Derived.BigQuiet
import Derived.Deep.RegionLaw
import Derived.Maps.Own
import Derived.Deep.CutRange
import Derived.Deep.Cut
namespace Go.Proofs.YtdgihicpjonjgaaGreatDoor
open Go.RowKit
namespace Q
abbrev Blks:=List (List Int × List Int)
def sideL (q:Bool) (X Y:List Int):List Int:=if q then Y else X
def eqT (x s:ByteArray):Bool:=x.toList == s.toList
def fstP (L:List ByteArray) (X:List Int) (s:ByteArray):Int:=(X.find? fun p=>eqT (sgAt L p) s).getD (-1)
def resQ (L:List ByteArray) (q:Bool) (E:Blks) (s:ByteArray):Int:=E.foldl (fun m Z=>if 0≤fstP L (sideL q Z.1 Z.2) s then fstP L (sideL q Z.1 Z.2) s else m) (-1)
theorem resQ_snoc (L:List ByteArray) (q:Bool) (E:Blks) (Z:List Int × List Int) (s:ByteArray):resQ L q (E++[Z]) s=if 0≤fstP L (sideL q Z.1 Z.2) s then fstP L (sideL q Z.1 Z.2) s else resQ L q E s:=by
 unfold resQ
 rw [List.foldl_append]
 rfl
structure Ot where
 us:List (Int × Int × Bool)
 bad:Bool
def Ot.none:Ot:=⟨[],false⟩
def Ot.add (a b:Ot):Ot:=⟨a.us++b.us,a.bad || b.bad⟩
theorem Ot.none_add (a:Ot):Ot.none.add a=a:=by cases a;simp [Ot.none,Ot.add]
theorem Ot.add_none (a:Ot):a.add Ot.none=a:=by cases a;simp [Ot.none,Ot.add]
theorem Ot.add_assoc (a b c:Ot):(a.add b).add c=a.add (b.add c):=by simp [Ot.add,List.append_assoc,Bool.or_assoc]
structure Kn where
 E:Blks
 lp:Bool
def knE (E:Blks) (lp:Bool):Kn:=⟨E,lp⟩
def addB (K:Kn) (X Y:List Int):Kn:={ K with E:=K.E++[(X,Y)] }
def addN (K:Kn) (X:List Int):Kn:=addB K X []
def inLoop (K:Kn) (b:Bool):Kn:={ K with lp:=b }
def usO (L:List ByteArray) (q:Bool) (E:Blks) (i:Int):Ot:=⟨[(i,resQ L q E (sgAt L i),q)],false⟩
def useO (L:List ByteArray) (K:Kn) (i:Int):Ot:=usO L false K.E i
def hideO (L:List ByteArray) (K:Kn) (i:Int):Ot:=usO L true K.E i
def badO (b:Bool):Ot:=⟨[],b⟩
theorem badO_add (F:Ot) (a b:Bool):(F.add (badO a)).add (badO b)=F.add (badO (a || b)):=by simp [Ot.add,badO,Bool.or_assoc]
def twP (L:List ByteArray) (X:List Int):Bool:=twiceB (X.map (sgAt L))
theorem twP_snoc (L:List ByteArray) (X:List Int) (n:Int):twP L (X++[n])=(twP L X || inB (X.map (sgAt L)) (sgAt L n)):=by
 unfold twP
 rw [List.map_append,List.map_singleton,twice_snoc]
def varB (L:List ByteArray):Bool→List Int→Bool
 | _,[]=>false
 | v,p :: ps=>(isW (sgAt L (p+1)) [118,97,114,115] && !v) || varB L false ps
def outs (f:Int→Ot):List Int→Ot
 | []=>Ot.none
 | p :: ps=>(f p).add (outs f ps)
def parN (L:List ByteArray) (p:Int):Int:=if isW (sgAt L p) [40] then p+1 else p
def parO (L:List ByteArray) (f:Int→Ot) (p:Int):Ot:=if isW (sgAt L p) [40] then f (p+2) else Ot.none
noncomputable def pieceD (L:List ByteArray) (hid:Bool) (i:Int):List Int:=if hidB L i=hid then plcD L i else []
noncomputable def blockO (L:List ByteArray) (r:Nat→Bool→Int→Kn→Ot) (v:Bool) (i:Int) (K:Kn):Ot :=
 (badO ((twP L ((plc L i).flatMap (pieceD L false)) || twP L ((plc L i).flatMap (pieceD L true))) || varB L v (plc L i))).add (outs (fun p=>r 0 false p (addB K ((plc L i).flatMap (pieceD L false)) ((plc L i).flatMap (pieceD L true)))) (plc L i))
noncomputable def fnO (L:List ByteArray) (r:Nat→Bool→Int→Kn→Ot) (i:Int) (K:Kn):Ot :=
 (badO (twP L ((plc L (i+3)).map (parN L)))).add
  ((outs (parO L fun p=>r 0 false p (inLoop (addN K ((plc L (i+3)).map (parN L))) false)) (plc L (i+3))).add
   (r 1 (!(plc L (i+3)).any fun p=>isW (sgAt L p) [40]) (bodyI L i) (inLoop (addN K ((plc L (i+3)).map (parN L))) false)))
noncomputable def itemO (L:List ByteArray) (r:Nat→Bool→Int→Kn→Ot) (i:Int) (K:Kn):Ot :=
 if isW (sgAt L i) [40]=false then (if nmB (sgAt L i) then useO L K i else Ot.none)
 else if isW (sgAt L (i+1)) [102,110] then fnO L r i K
 else if isW (sgAt L (i+1)) [100,111] then r 1 false (i+2) K
 else if isW (sgAt L (i+1)) [108,101,116] then r 0 false (i+3) K
 else if isW (sgAt L (i+1)) [115,101,116] then (useO L K (i+2)).add (r 0 false (i+3) K)
 else if isW (sgAt L (i+1)) [116,97,107,101] then r 0 false (itemE L (i+2)) K
 else if isW (sgAt L (i+1)) [104,103,101,116] || isW (sgAt L (i+1)) [104,112,117,116] then (hideO L K (i+2)).add (outs (fun p=>r 0 false p K) (plc L (i+3)))
 else if isW (sgAt L (i+1)) [104,105,100,100,101,110] || isW (sgAt L (i+1)) [118,97,114,115] then Ot.none
 else if isW (sgAt L (i+1)) [108,101,97,118,101] || isW (sgAt L (i+1)) [110,101,120,116] then badO (!K.lp)
 else if isW (sgAt L (i+1)) [119,104,105,108,101] then (r 0 false (i+2) K).add (r 0 false (itemE L (i+2)) (inLoop K true))
 else if isW (sgAt L (i+1)) [102,111,114] then (r 0 false (i+3) K).add ((r 0 false (itemE L (i+3)) K).add (r 0 false (itemE L (itemE L (i+3))) (addN (inLoop K true) [i+2])))
 else outs (fun p=>r 0 false p K) (plc L (i+2))
noncomputable def wk (L:List ByteArray):Nat→Nat→Bool→Int→Kn→Ot
 | 0,_,_,_,_=>Ot.none
 | n+1,m,v,i,K=>if m=0 then itemO L (wk L n) i K else blockO L (wk L n) v i K
noncomputable def findO (L:List ByteArray):Ot:=wk L (8 * L.length+40) 1 true 0 ⟨[],false⟩
section
variable {L:List ByteArray}
theorem fst_found {X:List Int} {s:ByteArray} (hX:∀ p∈X,0≤p):(0≤fstP L X s∧∃ p,X.find? (fun p=>eqT (sgAt L p) s)=some p∧fstP L X s=p)∨(fstP L X s=-1∧X.find? (fun p=>eqT (sgAt L p) s)=none):=by
 unfold fstP
 cases h:X.find? fun p=>eqT (sgAt L p) s with
 | none=>exact Or.inr ⟨rfl,rfl⟩
 | some p=>exact Or.inl ⟨hX p (List.mem_of_find?_eq_some h),p,rfl,rfl⟩
theorem fst_snoc {X:List Int} {s:ByteArray} {n:Int} (hX:∀ p∈X,0≤p):fstP L (X++[n]) s=if 0≤fstP L X s then fstP L X s else if eqT (sgAt L n) s then n else -1:=by
 rcases fst_found (L:=L) (s:=s) hX with ⟨h0,p,h1,h2⟩ | ⟨h0,h1⟩
 ·rw [if_pos h0,h2]
  unfold fstP
  rw [List.find?_append,h1]
  rfl
 ·rw [if_neg (by omega)]
  unfold fstP
  rw [List.find?_append,h1]
  cases h:eqT (sgAt L n) s <;> simp [List.find?,h]
theorem fst_nil (s:ByteArray):fstP L [] s=-1:=rfl
theorem eqT_iff {x s:ByteArray}:eqT x s=true↔x=s:=by
 unfold eqT
 constructor
 ·intro h
  have h1:=eq_of_beq h
  rw [ByteArray.toList_eq,ByteArray.toList_eq] at h1
  exact bytes_ext h1
 ·rintro rfl
  simp
theorem fst_in {X:List Int} (hX:∀ p∈X,0≤p) (s:ByteArray):inB (X.map (sgAt L)) s=decide (0≤fstP L X s):=by
 unfold inB
 rw [List.any_map]
 rcases fst_found (L:=L) (s:=s) hX with ⟨h0,p,h1,_⟩ | ⟨h0,h1⟩
 ·rw [decide_eq_true h0,List.any_eq_true]
  exact ⟨p,List.mem_of_find?_eq_some h1,List.find?_some h1⟩
 ·rw [decide_eq_false (by omega),List.any_eq_false]
  exact fun p hp=>List.find?_eq_none.mp h1 p hp
def EntM (L:List ByteArray) (es:List MapEntry) (X Y:List Int):Prop:=(∀ e∈es,∃ s q,e.key=ment s q∧s.size≤maxLen∧e.val=.int .i64 (fstP L (sideL q X Y) s))∧(∀ s q,(∃ e∈es,e.key=ment s q)↔0≤fstP L (sideL q X Y) s)∧(∀ p∈X,0≤p)∧∀ p∈Y,0≤p
def MapP (L:List ByteArray) (w:World) (b:Nat) (X Y:List Int):Prop:=∃ es clock,w.heap[b]?=some (.map es clock)∧EntM L es.toList X Y
variable {w w':World} {b:Nat} {X Y:List Int}
theorem MapP.keep (h:MapP L w b X Y) (hk:w'.heap[b]?=w.heap[b]?):MapP L w' b X Y:=by
 obtain ⟨es,clock,h1,h2⟩:=h
 exact ⟨es,clock,hk.trans h1,h2⟩
theorem MapP.lt (h:MapP L w b X Y):b < w.heap.size:=by
 obtain ⟨es,clock,h1,_⟩:=h
 exact (Array.getElem?_eq_some_iff.1 h1).1
theorem ent_nil:EntM L (#[]:Array MapEntry).toList [] []:=by
 refine ⟨fun _ h=>by simp at h,fun s q=>?_,fun p h=>?_,fun p h=>?_⟩
 ·cases q <;> simp [sideL,fst_nil]
 ·cases h
 ·cases h
theorem side_pos (h:(∀ p∈X,0≤p)∧∀ p∈Y,0≤p) (q:Bool):∀ p∈sideL q X Y,0≤p:=by
 cases q
 ·exact h.1
 ·exact h.2
theorem MapP.inb (h:MapP L w b X Y) (s:ByteArray) (q:Bool):inB ((sideL q X Y).map (sgAt L)) s=decide (0≤fstP L (sideL q X Y) s):=by
 obtain ⟨_,_,_,h2⟩:=h
 exact fst_in (side_pos h2.2.2 q) s
theorem MapP.look (h:MapP L w b X Y) (s:ByteArray) (q:Bool) (hs:s.size≤maxLen) :
  ∃ n:Int,(0≤fstP L (sideL q X Y) s→n=fstP L (sideL q X Y) s)∧∀ W:World,W.heap[b]?=w.heap[b]?→(Instr.lookup 126 (.map (some b)) (.agg #[.string s,.bool q]) true).run Tryz.prog W=.ok (.tuple #[.int .i64 n,.bool (decide (0≤fstP L (sideL q X Y) s))]) W:=by
 obtain ⟨es,clock,hb,hE,hm,hp⟩:=h
 obtain ⟨l,hl⟩:=keyM s q hs
 have hkeys:∀ e∈es.toList,∃ l,keyOf Tryz.prog 129 e.key=some l:=fun e he=>by
  obtain ⟨s',q',hk,hs',_⟩:=hE e he
  rw [hk]
  exact keyM s' q' hs'
 by_cases hin:0≤fstP L (sideL q X Y) s
 ·have hyes:=(hm s q).mpr hin
  refine ⟨fstP L (sideL q X Y) s,fun _=>rfl,fun W hW=>?_⟩
  rw [decide_eq_true hin]
  rcases mentLaw.find W hl es.toList hkeys with ⟨_,hf⟩ | ⟨j2,e2,hf,hj2,hk2⟩
  ·obtain ⟨e,he,hk⟩:=hyes
   exact absurd hk (hf e he)
  ·have hck:=mentLaw.check W es.isEmpty hl
   obtain ⟨s',q',hk',_,hv⟩:=hE e2 (List.mem_of_getElem? hj2)
   obtain ⟨rfl,rfl⟩:=ment_inj (hk2.symm.trans hk')
   unfold ment at hck hf
   simp [Instr.lookup,run_underlying Tryz.underlying126,MapKept.run_getObj_map (hW.trans hb),hck,hf,hv,Result.andThen]
 ·refine ⟨0,fun h=>absurd h hin,fun W hW=>?_⟩
  rw [decide_eq_false hin]
  rcases mentLaw.find W hl es.toList hkeys with ⟨hf,_⟩ | ⟨j,e,_,hj,hk⟩
  ·have hck:=mentLaw.check W es.isEmpty hl
   unfold ment at hck hf
   simp [Instr.lookup,run_underlying Tryz.underlying126,MapKept.run_getObj_map (hW.trans hb),hck,hf,Result.andThen]
  ·exact absurd ((hm s q).mp ⟨e,List.mem_of_getElem? hj,hk⟩) hin
def putE (q:Bool) (Z:List Int × List Int) (n:Int):List Int × List Int:=(if q then Z.1 else Z.1++[n],if q then Z.2++[n] else Z.2)
theorem side_put (q q':Bool) (n:Int):sideL q' (if q then X else X++[n]) (if q then Y++[n] else Y)=if q'=q then sideL q' X Y++[n] else sideL q' X Y:=by
 cases q <;> cases q' <;> rfl
theorem MapP.again (h:MapP L w b X Y) (n:Int) (q:Bool) (hn:0≤n) (hin:0≤fstP L (sideL q X Y) (sgAt L n)):MapP L w b (if q then X else X++[n]) (if q then Y++[n] else Y):=by
 obtain ⟨es,clock,hb,hE,hm,hp⟩:=h
 have key:∀ s q',fstP L (sideL q' (if q then X else X++[n]) (if q then Y++[n] else Y)) s=fstP L (sideL q' X Y) s:=fun s q'=>by
  rw [side_put]
  split
  ·rename_i hq
   subst hq
   rw [fst_snoc (side_pos hp q')]
   split
   ·rfl
   ·rename_i h0
    split
    ·rename_i h1
     rw [eqT_iff] at h1
     rw [h1] at hin
     exact absurd hin h0
    ·rcases fst_found (L:=L) (s:=s) (side_pos hp q') with h2 | h2
     ·exact absurd h2.1 h0
     ·exact h2.1.symm
  ·rfl
 refine ⟨es,clock,hb,fun e he=>?_,fun s q'=>by rw [key];exact hm s q',?_,?_⟩
 ·obtain ⟨s,q',h1,h2,h3⟩:=hE e he
  exact ⟨s,q',h1,h2,by rw [key];exact h3⟩
 ·intro p hpm
  cases q
  ·rcases List.mem_append.mp hpm with hpm | hpm
   ·exact hp.1 p hpm
   ·rw [List.mem_singleton] at hpm
    omega
  ·exact hp.1 p hpm
 ·intro p hpm
  cases q
  ·exact hp.2 p hpm
  ·rcases List.mem_append.mp hpm with hpm | hpm
   ·exact hp.2 p hpm
   ·rw [List.mem_singleton] at hpm
    omega
theorem MapP.put (h:MapP L w b X Y) (n:Int) (q:Bool) (hs:(sgAt L n).size≤maxLen) (hn:0≤n) (hno:¬ 0≤fstP L (sideL q X Y) (sgAt L n)) :
  ∃ w',(Instr.mapUpdate 126 (.map (some b)) (.agg #[.string (sgAt L n),.bool q]) (.int .i64 n)).run Tryz.prog w=.ok () w'∧MapP L w' b (if q then X else X++[n]) (if q then Y++[n] else Y)∧w.grownBy w' (some b):=by
 obtain ⟨es,clock,hb,hE,hm,hp⟩:=h
 obtain ⟨l,hl⟩:=keyM (sgAt L n) q hs
 have hkeys:∀ e∈es.toList,∃ l,keyOf Tryz.prog 129 e.key=some l:=fun e he=>by
  obtain ⟨s',q',hk,hs',_⟩:=hE e he
  rw [hk]
  exact keyM s' q' hs'
 have hnot:∀ e∈es.toList,e.key≠ment (sgAt L n) q:=fun e he hk=>hno ((hm (sgAt L n) q).mp ⟨e,he,hk⟩)
 have hmine:fstP L (sideL q (if q then X else X++[n]) (if q then Y++[n] else Y)) (sgAt L n)=n:=by
  rw [side_put,if_pos rfl,fst_snoc (side_pos hp q),if_neg hno,if_pos (eqT_iff.2 rfl)]
 have hother:∀ s q',ment (sgAt L n) q≠ment s q'→fstP L (sideL q' (if q then X else X++[n]) (if q then Y++[n] else Y)) s=fstP L (sideL q' X Y) s:=fun s q' hne=>by
  rw [side_put]
  split
  ·rename_i hq
   subst hq
   rw [fst_snoc (side_pos hp q')]
   split
   ·rfl
   ·rename_i h0
    rw [if_neg (fun h1=>hne (by rw [eqT_iff.1 h1]))]
    rcases fst_found (L:=L) (s:=s) (side_pos hp q') with h2 | h2
    ·exact absurd h2.1 h0
    ·exact h2.1.symm
  ·rfl
 rcases mentLaw.find w hl es.toList hkeys with ⟨hf,_⟩ | ⟨j,e,_,hj,hk⟩
 ·have hck:=mentLaw.check w false hl
  refine ⟨{ w with heap:=w.heap.setIfInBounds b (.map (es.push { key:=ment (sgAt L n) q,val:=.int .i64 n,born:=clock }) (clock+1)) },?_,⟨es.push { key:=ment (sgAt L n) q,val:=.int .i64 n,born:=clock },clock+1,?_,?_,?_,?_,?_⟩,⟨rfl,rfl,rfl,by simp,fun k hk hkb=>?_⟩⟩
  ·unfold ment at hck hf
   simp [Instr.mapUpdate,run_underlying Tryz.underlying126,MapKept.run_getObj_map hb,hck,hf,MapKept.run_setObj_map _ hb,Result.andThen,ment]
  ·have hlt:b < w.heap.size:=(Array.getElem?_eq_some_iff.1 hb).1
   simp [hlt]
  ·intro e he
   rw [Array.toList_push,List.mem_append,List.mem_singleton] at he
   rcases he with he | rfl
   ·obtain ⟨s,q',h1,h2,h3⟩:=hE e he
    refine ⟨s,q',h1,h2,?_⟩
    rw [hother s q' (fun hh=>hnot e he (h1.trans hh.symm))]
    exact h3
   ·exact ⟨sgAt L n,q,rfl,hs,by rw [hmine]⟩
  ·intro s q'
   rw [Array.toList_push]
   by_cases hk:ment (sgAt L n) q=ment s q'
   ·obtain ⟨h1,h2⟩:=ment_inj hk
    subst h2
    rw [← h1,hmine]
    exact ⟨fun _=>hn,fun _=>⟨_,List.mem_append.mpr (Or.inr (List.mem_singleton.mpr rfl)),rfl⟩⟩
   ·rw [hother s q' hk,← hm s q']
    constructor
    ·rintro ⟨e,he,hke⟩
     rcases List.mem_append.mp he with he | he
     ·exact ⟨e,he,hke⟩
     ·rw [List.mem_singleton] at he
      rw [he] at hke
      exact absurd hke hk
    ·rintro ⟨e,he,hke⟩
     exact ⟨e,List.mem_append.mpr (Or.inl he),hke⟩
  ·intro p hpm
   cases q
   ·rcases List.mem_append.mp hpm with hpm | hpm
    ·exact hp.1 p hpm
    ·rw [List.mem_singleton] at hpm
     omega
   ·exact hp.1 p hpm
  ·intro p hpm
   cases q
   ·exact hp.2 p hpm
   ·rcases List.mem_append.mp hpm with hpm | hpm
    ·exact hp.2 p hpm
    ·rw [List.mem_singleton] at hpm
     omega
  ·simp [Array.getElem?_setIfInBounds]
   intro hbk
   exact absurd (by rw [hbk]) hkb
 ·exact absurd hk (hnot e (List.mem_of_getElem? hj))
end
end Q
end Go.Proofs.YtdgihicpjonjgaaGreatDoor
namespace Go.Proofs.YtdgihicpjonjgaaGreatDoor
open Go.RowKit
namespace Q
structure MemR (L:List ByteArray) (S:Nat→Prop) (c:Nat) (va:Value) (x:RdX) (E:Blks) (w:World):Prop where
 lt:c < w.heap.size
 own:S c
 c0:w.cell? ⟨c,0,none⟩=some va
 c1:w.cell? ⟨c,1,none⟩=some x.vb
 c2:w.cell? ⟨c,2,none⟩=some (.int .i64 (E.length:Int))
 c3:w.cell? ⟨c,3,none⟩=some x.vu
 c4:w.cell? ⟨c,4,none⟩=some (.bool x.fu)
 c5:w.cell? ⟨c,5,none⟩=some (.bool x.ft)
 c6:w.cell? ⟨c,6,none⟩=some (.bool x.fo)
 c7:w.cell? ⟨c,7,none⟩=some (.bool x.fv)
 fz:∀ o,w.frozen? ⟨c,o,none⟩=false
 rowB:w.ownsRow (c+1) 126 1 x.vb x.bs.length (x.bs.map fun b=>.map (some b))
 rowU:w.ownsRow (c+1) 108 3 x.vu x.us.length (flatU x.us)
 inb:∀ g,x.vb.ownBlock=some g→S g
 inu:∀ g,x.vu.ownBlock=some g→S g
 apart:∀ g,x.vb.ownBlock=some g→x.vu.ownBlock≠some g
 maps:∀ j (h:j < x.bs.length),S x.bs[j]∧MapP L w x.bs[j] (E.getD j ([],[])).1 (E.getD j ([],[])).2
 nodup:x.bs.Nodup
 enough:E.length≤x.bs.length
 low:∀ k,S k→c≤k∧k < w.heap.size
 few:x.bs.length≤20000
structure SaidR (L:List ByteArray) (x:RdX) (F:Ot) (U:Nat):Prop where
 us:x.us=F.us
 unk:x.fu=F.us.any fun u=>u.2.1 == -1
 bad:(x.ft || (x.fo || x.fv))=F.bad
 cnt:x.us.length≤U
 inL:∀ u∈x.us,0≤u.1∧u.1 < (L.length:Int)
def St (S:Nat→Prop) (c:Nat) (a:Option Addr) (cap:Nat) (L:List ByteArray) (E:Blks) (F:Ot) (U:Nat) (w:World):Prop:=(∃ x,MemR L S c (.slice a L.length cap) x E w∧SaidR L x F U)∧ArgS S w a L
section
variable {L:List ByteArray} {S:Nat→Prop} {c:Nat} {va:Value} {x:RdX} {E:Blks} {w w':World}
theorem MemR.keep (h:MemR L S c va x E w) (hk:∀ k,S k→w'.heap[k]?=w.heap[k]?) (hz:w.heap.size≤w'.heap.size):MemR L S c va x E w':=by
 have hc:=hk c h.own
 have hcell:∀ o,w'.cell? ⟨c,o,none⟩=w.cell? ⟨c,o,none⟩:=fun o=>World.cell?_of_block (w:=w) (a:=⟨c,o,none⟩) hc
 have hfz:∀ o,w'.frozen? ⟨c,o,none⟩=w.frozen? ⟨c,o,none⟩:=fun o=>World.frozen?_of_block (w:=w) (a:=⟨c,o,none⟩) hc
 exact { lt:=Nat.lt_of_lt_of_le h.lt hz,own:=h.own,c0:=(hcell 0).trans h.c0,c1:=(hcell 1).trans h.c1,c2:=(hcell 2).trans h.c2,c3:=(hcell 3).trans h.c3,c4:=(hcell 4).trans h.c4,c5:=(hcell 5).trans h.c5,c6:=(hcell 6).trans h.c6,c7:=(hcell 7).trans h.c7,fz:=fun o=>(hfz o).trans (h.fz o),rowB:=own_kept h.rowB (fun g hg=>hk g (h.inb g hg)),rowU:=own_kept h.rowU (fun g hg=>hk g (h.inu g hg)),inb:=h.inb,inu:=h.inu,apart:=h.apart,maps:=fun j hj=>⟨(h.maps j hj).1,(h.maps j hj).2.keep (hk _ (h.maps j hj).1)⟩,nodup:=h.nodup,enough:=h.enough,low:=fun k hs=>⟨(h.low k hs).1,Nat.lt_of_lt_of_le (h.low k hs).2 hz⟩,few:=h.few }
theorem MemR.call (h:MemR L S c va x E w) (hb:Below w.heap.size w w'):MemR L S c va x E w':=h.keep (fun k hs=>hb.block k (h.low k hs).2) hb.size
theorem St.call {a:Option Addr} {cap:Nat} {F:Ot} {U:Nat} (h:St S c a cap L E F U w) (hb:Below w.heap.size w w'):St S c a cap L E F U w':=by
 obtain ⟨⟨x,hM,hS⟩,hA⟩:=h
 exact ⟨⟨x,hM.call hb,hS⟩,hA.nxt (Nxt.of_below S hb)⟩
theorem setC_other {o o':Nat} (w:World) (c:Nat) (u:Value) (h:o≠o'):(w.setCell ⟨c,o,none⟩ u).cell? ⟨c,o',none⟩=w.cell? ⟨c,o',none⟩:=World.cell?_setCell_other w ⟨c,o,none⟩ ⟨c,o',none⟩ u (fun hh=>h (by injection hh))
theorem MemR.row_keep {B:Nat} {e:TypeId} {sz n:Nat} {v:Value} {xs:List Value} (h:w.ownsRow B e sz v n xs) (hB:c < B) (o:Nat) (u:Value):(w.setCell ⟨c,o,none⟩ u).ownsRow B e sz v n xs :=
 own_kept h (fun g hg=>Below.heap_setCell w ⟨c,o,none⟩ u g (by have:=(World.ownsRow.lt h g hg).1;show g≠c;omega))
theorem MapP.not_c {b:Nat} {X Y:List Int} {v:Value} (h:MapP L w b X Y) (hc:w.cell? ⟨c,0,none⟩=some v):b≠c:=by
 rintro rfl
 obtain ⟨es,clock,hb,_⟩:=h
 simp [World.cell?,hb] at hc
theorem MapP.set {b:Nat} {X Y:List Int} {v:Value} (h:MapP L w b X Y) (hc:w.cell? ⟨c,0,none⟩=some v) (o:Nat) (u:Value):MapP L (w.setCell ⟨c,o,none⟩ u) b X Y :=
 h.keep (Below.heap_setCell w ⟨c,o,none⟩ u b (h.not_c hc))
theorem own_not_map {B:Nat} {e:TypeId} {sz n b g:Nat} {v:Value} {xs:List Value} {X Y:List Int} (h:w.ownsRow B e sz v n xs) (hm:MapP L w b X Y) (hg:v.ownBlock=some g):b≠g:=by
 rintro rfl
 obtain ⟨es,clock,hb,_⟩:=hm
 rcases h.2 with ⟨rfl,_⟩ | ⟨g',cap,cur,rfl,_,hgg,_⟩
 ·simp [Value.ownBlock] at hg
 ·simp [Value.ownBlock] at hg
  subst hg
  rw [hb] at hgg
  cases hgg
end
end Q
end Go.Proofs.YtdgihicpjonjgaaGreatDoor
namespace Go.Proofs.YtdgihicpjonjgaaGreatDoor
open Go.RowKit
namespace Q
theorem infoM:(Tryz.prog.info? 126).map (fun i=>(i.zero,i.size,i.bytes))=some (some (.map none),1,8):=by kernel_rfl
theorem infoU:(Tryz.prog.info? 108).map (fun i=>(i.zero,i.size,i.bytes))=some (some (.agg #[.int .i64 0,.int .i64 0,.bool false]),3,24):=by kernel_rfl
section
variable {L:List ByteArray} {S:Nat→Prop} {c:Nat} {va:Value} {x:RdX} {E:Blks} {w:World}
theorem own_shape {w:World} {B:Nat} {e:TypeId} {sz n:Nat} {v:Value} {xs:List Value} (h:w.ownsRow B e sz v n xs):∃ av cv,v=.slice av n cv∧n≤cv∧cv≤maxLen∧(av=none→n=0)∧∀ p,av=some p→∃ g,p=⟨g,0,none⟩∧v.ownBlock=some g:=by
 rcases h.2 with ⟨rfl,rfl⟩ | ⟨g,cap,cur,rfl,_,_,h1,h2,_⟩
 ·exact ⟨none,0,rfl,Nat.le_refl _,Nat.zero_le _,fun _=>rfl,fun p hp=>by cases hp⟩
 ·exact ⟨some ⟨g,0,none⟩,cap,rfl,h1,h2,(fun h=>by cases h),(fun p hp=>by cases hp;exact ⟨g,rfl,rfl⟩)⟩
theorem getD_push (E:Blks) (j:Nat):(E++[([],[])]).getD j ([],[])=E.getD j ([],[]):=by
 simp only [List.getD]
 by_cases h:j < E.length
 ·rw [List.getElem?_append_left h]
 ·rw [List.getElem?_append_right (by omega)]
  by_cases h2:j=E.length
  ·subst h2;simp
  ·rw [List.getElem?_eq_none (by simp;omega),List.getElem?_eq_none (by omega)]
theorem open_new (h:MemR L S c va x E w) (hE:E.length=x.bs.length) (hf:x.bs.length < 20000) {T:TypeId} {w3:World} {v':Value}
  (hown:w3.ownsRow (c+1) 126 1 v' (x.bs.length+1) ((x.bs.map fun b=>Value.map (some b))++[.map (some w.heap.size)]))
  (hg:((w.alloc (.map #[] 0)).alloc (.cells #[.map (some w.heap.size)] T)).grownBy w3 x.vb.ownBlock) (hwh:∀ g,v'.ownBlock=some g→x.vb.ownBlock=some g∨g=w.heap.size+2) :
  ∃ S',MemR L S' c va { x with vb:=v',bs:=x.bs++[w.heap.size] } (E++[([],[])]) ((w3.setCell ⟨c,1,none⟩ v').setCell ⟨c,2,none⟩ (.int .i64 ((E.length:Int)+1)))∧Nxt S S' w ((w3.setCell ⟨c,1,none⟩ v').setCell ⟨c,2,none⟩ (.int .i64 ((E.length:Int)+1))):=by
 have hlt:=h.lt
 have hvb:∀ g,x.vb.ownBlock=some g→c < g∧g < w.heap.size:=fun g hg=>by have:=World.ownsRow.lt h.rowB g hg;omega
 have hW:∀ k,k < w.heap.size→((w.alloc (.map #[] 0)).alloc (.cells #[.map (some w.heap.size)] T)).heap[k]?=w.heap[k]?:=fun k hk=>by
  rw [Below.heap_alloc _ _ _ (by simp;omega),Below.heap_alloc _ _ _ hk]
 have hz3:w.heap.size+2≤w3.heap.size:=by have:=hg.size;simpa using this
 have hk3:∀ k,k < w.heap.size→x.vb.ownBlock≠some k→w3.heap[k]?=w.heap[k]?:=fun k hk hn=>(hg.block k (by simp;omega) (fun e=>hn e.symm)).trans (hW k hk)
 have hc3:w3.heap[c]?=w.heap[c]?:=hk3 c hlt (fun e=>by have:=(hvb c e).1;omega)
 have hm3:w3.heap[w.heap.size]?=some (.map #[] 0):=by
  rw [hg.block _ (by simp;omega) (fun e=>by have:=(hvb _ e.symm).2;omega),Below.heap_alloc _ _ _ (by simp)]
  exact heap_alloc_new w _
 obtain ⟨wf,hwf⟩:∃ wf,wf=(w3.setCell ⟨c,1,none⟩ v').setCell ⟨c,2,none⟩ (.int .i64 ((E.length:Int)+1)):=⟨_,rfl⟩
 have hkf:∀ k,k≠c→wf.heap[k]?=w3.heap[k]?:=fun k hk=>by
  rw [hwf,Below.heap_setCell _ _ _ _ hk,Below.heap_setCell _ _ _ _ hk]
 have hzf:wf.heap.size=w3.heap.size:=by rw [hwf];simp [World.setCell]
 have hcell:∀ o,o≠1→o≠2→wf.cell? ⟨c,o,none⟩=w.cell? ⟨c,o,none⟩:=fun o h1 h2=>by
  rw [hwf,setC_other _ _ _ (Ne.symm h2),setC_other _ _ _ (Ne.symm h1)]
  exact World.cell?_of_block (w:=w) (a:=⟨c,o,none⟩) hc3
 have hfz:∀ o,wf.frozen? ⟨c,o,none⟩=false:=fun o=>by
  rw [hwf,World.frozen?_setCell,World.frozen?_setCell]
  exact (World.frozen?_of_block (w:=w) (a:=⟨c,o,none⟩) hc3).trans (h.fz o)
 have hc1:wf.cell? ⟨c,1,none⟩=some v':=by
  rw [hwf,setC_other _ _ _ (by decide)]
  exact World.cell?_setCell_same _ _ _ ((World.cell?_of_block (w:=w) (a:=⟨c,1,none⟩) hc3).trans h.c1)
 have hc2:wf.cell? ⟨c,2,none⟩=some (.int .i64 ((E.length:Int)+1)):=by
  rw [hwf]
  refine World.cell?_setCell_same _ _ _ (?_:_=some (.int .i64 (E.length:Int)))
  rw [setC_other _ _ _ (by decide)]
  exact (World.cell?_of_block (w:=w) (a:=⟨c,2,none⟩) hc3).trans h.c2
 rw [← hwf]
 refine ⟨fun k=>S k∨k=w.heap.size∨v'.ownBlock=some k,?_,?_⟩
 ·refine { lt:=by omega,own:=Or.inl h.own,c0:=(hcell 0 (by decide) (by decide)).trans h.c0,c1:=hc1,c2:=by rw [hc2];simp,c3:=(hcell 3 (by decide) (by decide)).trans h.c3,c4:=(hcell 4 (by decide) (by decide)).trans h.c4,c5:=(hcell 5 (by decide) (by decide)).trans h.c5,c6:=(hcell 6 (by decide) (by decide)).trans h.c6,c7:=(hcell 7 (by decide) (by decide)).trans h.c7,fz:=hfz,rowB:=?_,rowU:=?_,inb:=fun g hg=>Or.inr (Or.inr hg),inu:=fun g hg=>Or.inl (h.inu g hg),apart:=?_,maps:=?_,nodup:=?_,enough:=by simp;omega,low:=?_,few:=by simp;omega }
  ·have:=own_kept hown (w':=wf) (fun g hg=>hkf g (by have:=World.ownsRow.lt hown g hg;omega))
   simpa using this
  ·exact own_kept h.rowU (fun g hg=>(hkf g (by have:=World.ownsRow.lt h.rowU g hg;omega)).trans (hk3 g (World.ownsRow.lt h.rowU g hg).2 (fun e=>h.apart g e hg)))
  ·intro g hg hu
   rcases hwh g hg with e | e
   ·exact h.apart g e hu
   ·have:=(World.ownsRow.lt h.rowU g hu).2
    omega
  ·intro j hj
   rw [getD_push]
   simp only [List.length_append,List.length_singleton] at hj
   by_cases hjl:j < x.bs.length
   ·simp only [List.getElem_append_left hjl]
    obtain ⟨m1,m2⟩:=h.maps j hjl
    exact ⟨Or.inl m1,m2.keep ((hkf _ (m2.not_c h.c0)).trans (hk3 _ m2.lt (fun e=>own_not_map h.rowB m2 e rfl)))⟩
   ·obtain rfl:j=x.bs.length:=by omega
    simp only [List.getElem_append_right (Nat.le_refl _),Nat.sub_self,List.getElem_singleton]
    refine ⟨by simp,?_⟩
    have e:E.getD x.bs.length ([],[])=([],[]):=by simp [List.getD,hE]
    rw [e]
    exact ⟨#[],0,(hkf _ (by omega)).trans hm3,ent_nil⟩
  ·rw [List.nodup_append]
   refine ⟨h.nodup,by simp,fun a ha b hb=>?_⟩
   rw [List.mem_singleton] at hb
   rw [hb]
   obtain ⟨j,hj,rfl⟩:=List.getElem_of_mem ha
   have:=(h.maps j hj).2.lt
   omega
  ·rintro k (hs | rfl | hv)
   ·have:=h.low k hs
    omega
   ·omega
   ·have:=World.ownsRow.lt hown k hv
    omega
 ·refine ⟨?_,?_,?_,by omega,fun k hk hn=>(hkf k (fun e=>hn (e▸h.own))).trans (hk3 k hk (fun e=>hn (h.inb k e))),?_⟩
  ·rw [hwf];exact hg.os
  ·rw [hwf];exact hg.tape
  ·rw [hwf];exact hg.output
  ·rintro k (hs | rfl | hv)
   ·exact Or.inl hs
   ·exact Or.inr (Nat.le_refl _)
   ·rcases hwh k hv with e | e
    ·exact Or.inl (h.inb k e)
    ·exact Or.inr (by omega)
theorem open_old (h:MemR L S c va x E w) (hE:E.length < x.bs.length):MemR L S c va x (E++[([],[])]) (w.setCell ⟨c,2,none⟩ (.int .i64 ((E.length:Int)+1)))∧Nxt S S w (w.setCell ⟨c,2,none⟩ (.int .i64 ((E.length:Int)+1))):=by
 refine ⟨?_,Nxt.set S w _ h.own⟩
 have hz:(w.setCell ⟨c,2,none⟩ (.int .i64 ((E.length:Int)+1))).heap.size=w.heap.size:=by simp [World.setCell]
 exact { lt:=by rw [hz];exact h.lt,own:=h.own,c0:=(setC_other w c _ (by decide)).trans h.c0,c1:=(setC_other w c _ (by decide)).trans h.c1,c2:=by rw [World.cell?_setCell_same _ _ _ h.c2];simp,c3:=(setC_other w c _ (by decide)).trans h.c3,c4:=(setC_other w c _ (by decide)).trans h.c4,c5:=(setC_other w c _ (by decide)).trans h.c5,c6:=(setC_other w c _ (by decide)).trans h.c6,c7:=(setC_other w c _ (by decide)).trans h.c7,fz:=fun o=>by rw [World.frozen?_setCell];exact h.fz o,rowB:=MemR.row_keep h.rowB (Nat.lt_succ_self c) 2 _,rowU:=MemR.row_keep h.rowU (Nat.lt_succ_self c) 2 _,inb:=h.inb,inu:=h.inu,apart:=h.apart,maps:=fun j hj=>by rw [getD_push];exact ⟨(h.maps j hj).1,(h.maps j hj).2.set h.c0 2 _⟩,nodup:=h.nodup,enough:=by simp;omega,low:=fun k hs=>by rw [hz];exact h.low k hs,few:=h.few }
end
theorem Nxt.drewN (S:Nat→Prop) (w:World) (n:Nat):Nxt S S w (w.drewN n):=⟨rfl,rfl,rfl,Nat.le_refl _,fun _ _ _=>rfl,fun _ h=>Or.inl h⟩
theorem MemR.drewN {L:List ByteArray} {S:Nat→Prop} {c:Nat} {va:Value} {x:RdX} {E:Blks} {w:World} (h:MemR L S c va x E w) (n:Nat):MemR L S c va x E (w.drewN n):=h.keep (fun _ _=>rfl) (Nat.le_refl _)
set_option maxRecDepth 100000 in
set_option maxHeartbeats 2000000 in
theorem openBlock_any (S:Nat→Prop) (c:Nat) (a:Option Addr) (cap:Nat) (L:List ByteArray) (E:Blks) (F:Ot) (U:Nat) (w:World) (h:St S c a cap L E F U w) (hE:E.length < 20000) :
  Calls Tryz.prog 85 #[.pointer (some ⟨c,0,none⟩)] w fun e w'=>e=.returned (.tuple #[])∧∃ S',St S' c a cap L (E++[([],[])]) F U w'∧Nxt S S' w w':=by
 obtain ⟨⟨x,hM,hS⟩,hA⟩:=h
 obtain ⟨i0,hi,hz0,hz1,hz2⟩:=info_parts infoM
 obtain ⟨av,cv,hvb,hcv,hcm,hn0,hsh⟩:=own_shape hM.rowB
 have hmm:=@run_makeMap Tryz.prog
 have hEf:=hM.few
 by_cases hEq:E.length=x.bs.length
 ·have hq:(((E.length:Nat):Int) == (x.bs.length:Int))=true:=by simp [hEq]
  have HM:Hid (MemR L S c (.slice a L.length cap) x E w):=hM
  have HEq:Hid (E.length=x.bs.length):=hEq
  have HVB:Hid (x.vb=.slice av x.bs.length cv):=hvb
  have hc1:w.cell? ⟨c,1,none⟩=some (.slice av x.bs.length cv):=hvb▸hM.c1
  have hc2:=hM.c2
  have hbl:x.bs.length < 20000:=by omega
  have hbe:((E.length:Nat):Int) < 20000:=by omega
  clear hM hEq hvb hn0 hsh hcv hcm hEf
  go_enter Tryz.func85,Tryz.ntmps85
  go_wp2_with fail
  go_quiet (fail)
  have HM1:Hid (MemR L S c (.slice a L.length cap) x E (w.drewN nq)):=HM.out.drewN nq
  have HN1:Hid (Nxt S S w (w.drewN nq)):=Nxt.drewN S w nq
  have hc1:(w.drewN nq).cell? ⟨c,1,none⟩=some (.slice av x.bs.length cv):=hc1
  clear hc2
  generalize w.drewN nq=W at *
  have hf1:=HM1.out.fz 1
  have hlt:=HM1.out.lt
  have HO:Hid (W.ownsRow (c+1) 126 1 (.slice av x.bs.length cv) x.bs.length (x.bs.map fun b=>.map (some b))):=HVB.out▸HM1.out.rowB
  have hcc1:∀ j u,[Value.map (some W.heap.size)][j]?=some u→((W.alloc (.map #[] 0)).alloc (.cells #[.map (some W.heap.size)] 126)).cell? ((⟨W.heap.size+1,0,none⟩:Addr).add j)=some u:=fun j u hj=>by
   match j,hj with
   | 0,hj =>
    simp at hj
    subst hj
    have e:(W.alloc (.map #[] 0)).heap.size=W.heap.size+1:=by simp
    rw [← e]
    simp [Addr.add]
  have hcc2:∀ u∈[Value.map (some W.heap.size)],u.oneCell'=true:=fun u hu=>by simp at hu;subst hu;rfl
  have hcc3:x.bs.length+1≤maxLen:=by unfold maxLen;omega
  have hcc4:(x.bs.length+1) * 8≤140737488355328:=by omega
  have hcc5:c+1≤((W.alloc (.map #[] 0)).alloc (.cells #[.map (some W.heap.size)] 126)).heap.size:=by simp;omega
  go_wp2_with (at_builtin;refine wpList_append_at _ rfl (.tmp 16) (.tmp 18) 40 rfl (c+1) 126 i0 (.map none) 1 8 Tryz.underlying40 hi hz0 hz1 hz2 rfl (by decide) _ _ _ rfl (World.ownsRow.alloc (World.ownsRow.alloc HO.out _) _) ⟨W.heap.size+1,0,none⟩ 1 1 [.map (some W.heap.size)] rfl rfl hcc1 hcc2 hcc3 hcc4 hcc5 ?_)
  intro v' w3 hown hgrow hwh
  obtain ⟨av',cv',rfl,_,_,_,_⟩:=own_shape hown
  have hgk:∀ o,w3.cell? ⟨c,o,none⟩=W.cell? ⟨c,o,none⟩∧w3.frozen? ⟨c,o,none⟩=W.frozen? ⟨c,o,none⟩:=fun o=>by
   have hb:w3.heap[c]?=W.heap[c]?:=by
    rw [hgrow.block c (by simp;omega) (fun e=>by have:=(World.ownsRow.lt HO.out c e.symm).1;omega),Below.heap_alloc _ _ _ (by simp;omega),Below.heap_alloc _ _ _ hlt]
   exact ⟨World.cell?_of_block (w:=W) (a:=⟨c,o,none⟩) hb,World.frozen?_of_block (w:=W) (a:=⟨c,o,none⟩) hb⟩
  have k1:=(hgk 1).1.trans HM1.out.c1
  have k2:=(hgk 2).1.trans HM1.out.c2
  have z1:=(hgk 1).2.trans (HM1.out.fz 1)
  have z2:=(hgk 2).2.trans (HM1.out.fz 2)
  have HF:Hid (∃ S',MemR L S' c (.slice a L.length cap) { x with vb:=.slice av' (x.bs.length+1) cv',bs:=x.bs++[W.heap.size] } (E++[([],[])]) ((w3.setCell ⟨c,1,none⟩ (.slice av' (x.bs.length+1) cv')).setCell ⟨c,2,none⟩ (.int .i64 ((E.length:Int)+1)))∧Nxt S S' W ((w3.setCell ⟨c,1,none⟩ (.slice av' (x.bs.length+1) cv')).setCell ⟨c,2,none⟩ (.int .i64 ((E.length:Int)+1)))) :=
   open_new HM1.out HEq.out hbl hown (HVB.out▸hgrow) (fun g hg=>by have:=hwh g hg;rw [HVB.out];simpa using this)
  clear hown hgrow hwh hgk hcc1 hcc2 hcc3 hcc4 hcc5 HO
  go_wp2
  go_end0
  obtain ⟨S',h1,h2⟩:=HF.out
  exact ⟨rfl,S',⟨⟨_,h1,⟨hS.us,hS.unk,hS.bad,hS.cnt,hS.inL⟩⟩,hA.nxt (HN1.out.trans h2)⟩,HN1.out.trans h2⟩
 ·have hq:(((E.length:Nat):Int) == (x.bs.length:Int))=false:=by simp;omega
  have HM:Hid (MemR L S c (.slice a L.length cap) x E w):=hM
  have hlt:E.length < x.bs.length:=by have:=hM.enough;omega
  have hc1:w.cell? ⟨c,1,none⟩=some (.slice av x.bs.length cv):=hvb▸hM.c1
  have hc2:=hM.c2
  have hbe:((E.length:Nat):Int) < 20000:=by omega
  clear hM hEq hvb hn0 hsh hcv hcm hEf
  go_enter Tryz.func85,Tryz.ntmps85
  go_wp2_with fail
  go_quiet (fail)
  have HM1:Hid (MemR L S c (.slice a L.length cap) x E (w.drewN nq)):=HM.out.drewN nq
  have HN1:Hid (Nxt S S w (w.drewN nq)):=Nxt.drewN S w nq
  clear hc2 hc1
  generalize w.drewN nq=W at *
  have hc2:=HM1.out.c2
  have hf2:=HM1.out.fz 2
  have HF:=open_old HM1.out hlt
  have HF':Hid (MemR L S c (.slice a L.length cap) x (E++[([],[])]) (W.setCell ⟨c,2,none⟩ (.int .i64 ((E.length:Int)+1)))∧Nxt S S W (W.setCell ⟨c,2,none⟩ (.int .i64 ((E.length:Int)+1)))):=HF
  clear HF
  go_wp2
  go_end0
  obtain ⟨h1,h2⟩:=HF'.out
  exact ⟨rfl,S,⟨⟨_,h1,hS⟩,hA.nxt (HN1.out.trans h2)⟩,HN1.out.trans h2⟩
end Q
end Go.Proofs.YtdgihicpjonjgaaGreatDoor
namespace Go.Proofs.YtdgihicpjonjgaaGreatDoor
open Go.RowKit
namespace Q
theorem MapP.clr {L:List ByteArray} {w:World} {b:Nat} {X Y:List Int} (h:MapP L w b X Y):∃ clock,(∀ (W:World) (ty:TypeId),W.heap[b]?=w.heap[b]?→(Builtin.clear_ #[126] ty #[.map (some b)]).run Tryz.prog W=.ok (.tuple #[]) (clrW W b clock)∧MapP L (clrW W b clock) b [] []∧W.grownBy (clrW W b clock) (some b)):=by
 obtain ⟨es,clock,hb,_⟩:=h
 refine ⟨clock,fun W ty hW=>⟨?_,⟨#[],clock,?_,ent_nil⟩,⟨rfl,rfl,rfl,by simp [clrW],fun k hk hkb=>?_⟩⟩⟩
 ·simp [Builtin.clear_,run_underlying Tryz.underlying126,MapKept.run_getObj_map (hW.trans hb),MapKept.run_setObj_map _ (hW.trans hb),Result.andThen,clrW]
 ·have hlt:b < W.heap.size:=(Array.getElem?_eq_some_iff.1 (hW.trans hb)).1
  simp [clrW,hlt]
 ·simp [clrW,Array.getElem?_setIfInBounds]
  intro hbk
  exact absurd (by rw [hbk]) hkb
section
variable {L:List ByteArray} {S:Nat→Prop} {c:Nat} {va:Value} {x:RdX} {E:Blks} {w:World}
theorem nodup_inj {l:List Nat} (h:l.Nodup) {i j:Nat} (hi:i < l.length) (hj:j < l.length) (e:l[i]=l[j]):i=j:=by
 have hp:=List.pairwise_iff_getElem.mp h
 rcases Nat.lt_trichotomy i j with hl | hl | hl
 ·exact absurd e (hp i j hi hj hl)
 ·exact hl
 ·exact absurd e.symm (hp j i hj hi hl)
theorem getD_pop (E:Blks) (Z:List Int × List Int) (j:Nat) (h:j≠E.length):(E++[Z]).getD j ([],[])=E.getD j ([],[]):=by
 simp only [List.getD]
 by_cases h1:j < E.length
 ·rw [List.getElem?_append_left h1]
 ·rw [List.getElem?_eq_none (by simp;omega),List.getElem?_eq_none (by omega)]
theorem getD_last (E:Blks) (Z:List Int × List Int):(E++[Z]).getD E.length ([],[])=Z:=by simp [List.getD]
theorem close_mem {Z:List Int × List Int} (h:MemR L S c va x (E++[Z]) w) {b:Nat} (hj:E.length < x.bs.length) (hb:x.bs[E.length]=b) {wf:World} (hg:(w.setCell ⟨c,2,none⟩ (.int .i64 (E.length:Int))).grownBy wf (some b)) (hm:MapP L wf b [] []):MemR L S c va x E wf∧Nxt S S w wf:=by
 obtain ⟨W,hW⟩:∃ W,W=w.setCell ⟨c,2,none⟩ (.int .i64 (E.length:Int)):=⟨_,rfl⟩
 have hbm:=(h.maps E.length hj).2
 have hbs:=(h.maps E.length hj).1
 rw [hb] at hbm hbs
 have hbc:b≠c:=hbm.not_c h.c0
 have hz:W.heap.size=w.heap.size:=by rw [hW];simp [World.setCell]
 rw [← hW] at hg
 have hNW:Nxt S S w W:=by rw [hW];exact Nxt.set S w _ h.own
 have hlt:=h.lt
 have hkc:wf.heap[c]?=W.heap[c]?:=hg.block c (by omega) (fun e=>hbc (by injection e with e;exact e.symm))
 have hcell:∀ o,wf.cell? ⟨c,o,none⟩=W.cell? ⟨c,o,none⟩:=fun o=>World.cell?_of_block (w:=W) (a:=⟨c,o,none⟩) hkc
 have hfz:∀ o,wf.frozen? ⟨c,o,none⟩=W.frozen? ⟨c,o,none⟩:=fun o=>World.frozen?_of_block (w:=W) (a:=⟨c,o,none⟩) hkc
 have hco:∀ o,o≠2→wf.cell? ⟨c,o,none⟩=w.cell? ⟨c,o,none⟩:=fun o ho=>by rw [hcell,hW,setC_other _ _ _ (Ne.symm ho)]
 have hk:∀ k,k < w.heap.size→k≠c→k≠b→wf.heap[k]?=w.heap[k]?:=fun k h1 h2 h3=>by
  rw [hg.block k (by omega) (fun e=>h3 (by injection e)),hW,Below.heap_setCell _ _ _ _ h2]
 have hrow:∀ {B:Nat} {e:TypeId} {sz n:Nat} {v:Value} {xs:List Value},w.ownsRow B e sz v n xs→c < B→wf.ownsRow B e sz v n xs:=fun hr hB =>
  own_kept hr (fun g hg'=>hk g (World.ownsRow.lt hr g hg').2 (by have:=(World.ownsRow.lt hr g hg').1;omega) (fun e=>own_not_map hr hbm hg' e.symm))
 refine ⟨?_,hNW.trans (Nxt.grown S hg (fun k e=>by injection e with e;rw [← e];exact hbs))⟩
 refine { lt:=by have:=hg.size;omega,own:=h.own,c0:=(hco 0 (by decide)).trans h.c0,c1:=(hco 1 (by decide)).trans h.c1,c2:=?_,c3:=(hco 3 (by decide)).trans h.c3,c4:=(hco 4 (by decide)).trans h.c4,c5:=(hco 5 (by decide)).trans h.c5,c6:=(hco 6 (by decide)).trans h.c6,c7:=(hco 7 (by decide)).trans h.c7,fz:=fun o=>by rw [hfz,hW,World.frozen?_setCell];exact h.fz o,rowB:=hrow h.rowB (Nat.lt_succ_self c),rowU:=hrow h.rowU (Nat.lt_succ_self c),inb:=h.inb,inu:=h.inu,apart:=h.apart,maps:=?_,nodup:=h.nodup,enough:=by omega,low:=fun k hs=>by have:=h.low k hs;have:=hg.size;omega,few:=h.few }
 ·rw [hcell,hW]
  exact World.cell?_setCell_same _ _ _ h.c2
 ·intro j hj2
  obtain ⟨m1,m2⟩:=h.maps j hj2
  refine ⟨m1,?_⟩
  by_cases e:j=E.length
  ·subst e
   rw [show E.getD E.length ([],[])=([],[]) by simp [List.getD],hb]
   exact hm
  ·rw [getD_pop E Z j e] at m2
   refine m2.keep (hk _ m2.lt (m2.not_c h.c0) (fun e2=>e ?_))
   rw [← hb] at e2
   exact nodup_inj h.nodup hj2 hj e2
theorem own_cell {w:World} {B:Nat} {e:TypeId} {n g cv:Nat} {bs:List Nat} (h:w.ownsRow B e 1 (.slice (some ⟨g,0,none⟩) n cv) n (bs.map fun b=>.map (some b))) (j:Nat) (hj:j < bs.length):w.cell? ⟨g,j,none⟩=some (.map (some bs[j])):=by
 have hc:=World.ownsRow.cells h (g:=g) rfl j (.map (some bs[j])) (by simp [hj])
 have hadd:(⟨g,0,none⟩:Addr).add j=⟨g,j,none⟩:=by unfold Addr.add;split <;> simp_all
 rwa [hadd] at hc
end
set_option maxRecDepth 100000 in
set_option maxHeartbeats 4000000 in
theorem closeBlock_any (S:Nat→Prop) (c:Nat) (a:Option Addr) (cap:Nat) (L:List ByteArray) (E:Blks) (Z:List Int × List Int) (F:Ot) (U:Nat) (w:World) (h:St S c a cap L (E++[Z]) F U w) :
  Calls Tryz.prog 89 #[.pointer (some ⟨c,0,none⟩)] w fun e w'=>e=.returned (.tuple #[])∧St S c a cap L E F U w'∧Nxt S S w w':=by
 obtain ⟨⟨x,hM,hS⟩,hA⟩:=h
 obtain ⟨av,cv,hvb,hcv,hcm,hn0,hsh⟩:=own_shape hM.rowB
 have hen:=hM.enough
 have hfew:=hM.few
 simp only [List.length_append,List.length_singleton] at hen
 have hj:E.length < x.bs.length:=by omega
 obtain ⟨g,rfl⟩:∃ g,av=some ⟨g,0,none⟩:=by
  cases av with
  | none=>exact absurd (hn0 rfl) (by omega)
  | some p=>obtain ⟨g,rfl,_⟩:=hsh p rfl;exact ⟨g,rfl⟩
 have hcg:c < g∧g < w.heap.size:=by have:=World.ownsRow.lt hM.rowB g (by rw [hvb];rfl);omega
 have hbm:=(hM.maps E.length hj).2
 obtain ⟨b,hb⟩:∃ b,b=x.bs[E.length]:=⟨_,rfl⟩
 rw [← hb] at hbm
 have hbc:b≠c:=hbm.not_c hM.c0
 obtain ⟨clock,hcl⟩:=hbm.clr
 have hc1:w.cell? ⟨c,1,none⟩=some (.slice (some ⟨g,0,none⟩) x.bs.length cv):=hvb▸hM.c1
 have hc2:w.cell? ⟨c,2,none⟩=some (.int .i64 ((E.length:Int)+1)):=by have:=hM.c2;simpa using this
 have hf2:=hM.fz 2
 have hgj:w.cell? ⟨g,E.length,none⟩=some (.map (some b)):=by rw [hb];exact own_cell (hvb▸hM.rowB) E.length hj
 obtain ⟨W,hW⟩:∃ W,W=w.setCell ⟨c,2,none⟩ (.int .i64 (E.length:Int)):=⟨_,rfl⟩
 have k1:W.cell? ⟨c,1,none⟩=some (.slice (some ⟨g,0,none⟩) x.bs.length cv):=by rw [hW,setC_other _ _ _ (by decide)];exact hc1
 have k2:W.cell? ⟨c,2,none⟩=some (.int .i64 (E.length:Int)):=by rw [hW];exact World.cell?_setCell_same _ _ _ hc2
 have kg:W.cell? ⟨g,E.length,none⟩=some (.map (some b)):=by
  rw [hW]
  exact (World.cell?_of_block (w:=w) (a:=⟨g,E.length,none⟩) (Below.heap_setCell w ⟨c,2,none⟩ _ g (by show g≠c;omega))).trans hgj
 have kb:W.heap[b]?=w.heap[b]?:=by rw [hW];exact Below.heap_setCell w ⟨c,2,none⟩ _ b hbc
 have HFIN:Hid (∀ wf,W.grownBy wf (some b)→MapP L wf b [] []→MemR L S c (.slice a L.length cap) x E wf∧Nxt S S w wf):=fun wf hg hm=>close_mem hM hj hb.symm (hW▸hg) hm
 have hrun:∀ ty,(Builtin.clear_ #[126] ty #[.map (some b)]).run Tryz.prog W.drew=.ok (.tuple #[]) (clrW W.drew b clock):=fun ty=>(hcl W.drew ty kb).1
 have HG:Hid (W.grownBy (clrW W.drew b clock) (some b)∧MapP L (clrW W.drew b clock) b [] []):=by
  obtain ⟨_,h2,h3⟩:=hcl W.drew 0 kb
  exact ⟨⟨h3.os,h3.tape,h3.output,h3.size,h3.block⟩,h2⟩
 have hEl:(E.length:Int) < (x.bs.length:Int):=by omega
 have hE0:(0:Int)≤(E.length:Int):=by omega
 have hE2:((E.length:Int)+1) - 1=(E.length:Int):=by omega
 have hE3:(E.length:Int) < 20000:=by omega
 clear hcl kb hgj hM hvb hbm hb hcm hn0 hsh hen hfew hj
 go_enter Tryz.func89,Tryz.ntmps89
 go_wp2
 rw [← hW]
 clear hW hc1 hc2 hf2
 go_region
 all_goals
  obtain ⟨h1,h2⟩:=HG.out
  obtain ⟨h3,h4⟩:=HFIN.out _ h1 h2
  go_end0
  exact ⟨rfl,⟨⟨_,h3,hS⟩,hA.nxt h4⟩,h4⟩
end Q
end Go.Proofs.YtdgihicpjonjgaaGreatDoor
namespace Go.Proofs.YtdgihicpjonjgaaGreatDoor
open Go.RowKit
namespace Q
section
variable {L:List ByteArray} {S:Nat→Prop} {c:Nat} {va:Value} {x:RdX} {E:Blks} {w:World}
theorem MemR.flag4 (h:MemR L S c va x E w) (v:Bool):MemR L S c va { x with fu:=v } E (w.setCell ⟨c,4,none⟩ (.bool v)) :=
 have hz:(w.setCell ⟨c,4,none⟩ (.bool v)).heap.size=w.heap.size:=by simp [World.setCell]
 { lt:=by rw [hz];exact h.lt,own:=h.own,c0:=(setC_other w c _ (by decide)).trans h.c0,c1:=(setC_other w c _ (by decide)).trans h.c1,c2:=(setC_other w c _ (by decide)).trans h.c2,c3:=(setC_other w c _ (by decide)).trans h.c3,c4:=World.cell?_setCell_same _ _ _ h.c4,c5:=(setC_other w c _ (by decide)).trans h.c5,c6:=(setC_other w c _ (by decide)).trans h.c6,c7:=(setC_other w c _ (by decide)).trans h.c7,fz:=fun o=>by rw [World.frozen?_setCell];exact h.fz o,rowB:=MemR.row_keep h.rowB (Nat.lt_succ_self c) 4 _,rowU:=MemR.row_keep h.rowU (Nat.lt_succ_self c) 4 _,inb:=h.inb,inu:=h.inu,apart:=h.apart,maps:=fun j hj=>⟨(h.maps j hj).1,(h.maps j hj).2.set h.c0 4 _⟩,nodup:=h.nodup,enough:=h.enough,low:=fun k hs=>by rw [hz];exact h.low k hs,few:=h.few }
theorem MemR.flag5 (h:MemR L S c va x E w) (v:Bool):MemR L S c va { x with ft:=v } E (w.setCell ⟨c,5,none⟩ (.bool v)) :=
 have hz:(w.setCell ⟨c,5,none⟩ (.bool v)).heap.size=w.heap.size:=by simp [World.setCell]
 { lt:=by rw [hz];exact h.lt,own:=h.own,c0:=(setC_other w c _ (by decide)).trans h.c0,c1:=(setC_other w c _ (by decide)).trans h.c1,c2:=(setC_other w c _ (by decide)).trans h.c2,c3:=(setC_other w c _ (by decide)).trans h.c3,c4:=(setC_other w c _ (by decide)).trans h.c4,c5:=World.cell?_setCell_same _ _ _ h.c5,c6:=(setC_other w c _ (by decide)).trans h.c6,c7:=(setC_other w c _ (by decide)).trans h.c7,fz:=fun o=>by rw [World.frozen?_setCell];exact h.fz o,rowB:=MemR.row_keep h.rowB (Nat.lt_succ_self c) 5 _,rowU:=MemR.row_keep h.rowU (Nat.lt_succ_self c) 5 _,inb:=h.inb,inu:=h.inu,apart:=h.apart,maps:=fun j hj=>⟨(h.maps j hj).1,(h.maps j hj).2.set h.c0 5 _⟩,nodup:=h.nodup,enough:=h.enough,low:=fun k hs=>by rw [hz];exact h.low k hs,few:=h.few }
theorem MemR.flag6 (h:MemR L S c va x E w) (v:Bool):MemR L S c va { x with fo:=v } E (w.setCell ⟨c,6,none⟩ (.bool v)) :=
 have hz:(w.setCell ⟨c,6,none⟩ (.bool v)).heap.size=w.heap.size:=by simp [World.setCell]
 { lt:=by rw [hz];exact h.lt,own:=h.own,c0:=(setC_other w c _ (by decide)).trans h.c0,c1:=(setC_other w c _ (by decide)).trans h.c1,c2:=(setC_other w c _ (by decide)).trans h.c2,c3:=(setC_other w c _ (by decide)).trans h.c3,c4:=(setC_other w c _ (by decide)).trans h.c4,c5:=(setC_other w c _ (by decide)).trans h.c5,c6:=World.cell?_setCell_same _ _ _ h.c6,c7:=(setC_other w c _ (by decide)).trans h.c7,fz:=fun o=>by rw [World.frozen?_setCell];exact h.fz o,rowB:=MemR.row_keep h.rowB (Nat.lt_succ_self c) 6 _,rowU:=MemR.row_keep h.rowU (Nat.lt_succ_self c) 6 _,inb:=h.inb,inu:=h.inu,apart:=h.apart,maps:=fun j hj=>⟨(h.maps j hj).1,(h.maps j hj).2.set h.c0 6 _⟩,nodup:=h.nodup,enough:=h.enough,low:=fun k hs=>by rw [hz];exact h.low k hs,few:=h.few }
theorem MemR.flag7 (h:MemR L S c va x E w) (v:Bool):MemR L S c va { x with fv:=v } E (w.setCell ⟨c,7,none⟩ (.bool v)) :=
 have hz:(w.setCell ⟨c,7,none⟩ (.bool v)).heap.size=w.heap.size:=by simp [World.setCell]
 { lt:=by rw [hz];exact h.lt,own:=h.own,c0:=(setC_other w c _ (by decide)).trans h.c0,c1:=(setC_other w c _ (by decide)).trans h.c1,c2:=(setC_other w c _ (by decide)).trans h.c2,c3:=(setC_other w c _ (by decide)).trans h.c3,c4:=(setC_other w c _ (by decide)).trans h.c4,c5:=(setC_other w c _ (by decide)).trans h.c5,c6:=(setC_other w c _ (by decide)).trans h.c6,c7:=World.cell?_setCell_same _ _ _ h.c7,fz:=fun o=>by rw [World.frozen?_setCell];exact h.fz o,rowB:=MemR.row_keep h.rowB (Nat.lt_succ_self c) 7 _,rowU:=MemR.row_keep h.rowU (Nat.lt_succ_self c) 7 _,inb:=h.inb,inu:=h.inu,apart:=h.apart,maps:=fun j hj=>⟨(h.maps j hj).1,(h.maps j hj).2.set h.c0 7 _⟩,nodup:=h.nodup,enough:=h.enough,low:=fun k hs=>by rw [hz];exact h.low k hs,few:=h.few }
theorem map_mem {Z Z':List Int × List Int} (h:MemR L S c va x (E++[Z]) w) {b:Nat} (hj:E.length < x.bs.length) (hb:x.bs[E.length]=b) {wf:World} (hg:w.grownBy wf (some b)) (hm:MapP L wf b Z'.1 Z'.2):MemR L S c va x (E++[Z']) wf∧Nxt S S w wf:=by
 have hbm:=(h.maps E.length hj).2
 have hbs:=(h.maps E.length hj).1
 rw [hb] at hbm hbs
 have hbc:b≠c:=hbm.not_c h.c0
 have hlt:=h.lt
 have hkc:wf.heap[c]?=w.heap[c]?:=hg.block c hlt (fun e=>hbc (by injection e with e;exact e.symm))
 have hcell:∀ o,wf.cell? ⟨c,o,none⟩=w.cell? ⟨c,o,none⟩:=fun o=>World.cell?_of_block (w:=w) (a:=⟨c,o,none⟩) hkc
 have hfz:∀ o,wf.frozen? ⟨c,o,none⟩=w.frozen? ⟨c,o,none⟩:=fun o=>World.frozen?_of_block (w:=w) (a:=⟨c,o,none⟩) hkc
 have hk:∀ k,k < w.heap.size→k≠b→wf.heap[k]?=w.heap[k]?:=fun k h1 h3=>hg.block k h1 (fun e=>h3 (by injection e))
 have hrow:∀ {B:Nat} {e:TypeId} {sz n:Nat} {v:Value} {xs:List Value},w.ownsRow B e sz v n xs→wf.ownsRow B e sz v n xs:=fun hr =>
  own_kept hr (fun g hg'=>hk g (World.ownsRow.lt hr g hg').2 (fun e=>own_not_map hr hbm hg' e.symm))
 have h2:=h.c2
 have hen:=h.enough
 simp only [List.length_append,List.length_singleton] at h2 hen
 refine ⟨?_,Nxt.grown S hg (fun k e=>by injection e with e;rw [← e];exact hbs)⟩
 refine { lt:=by have:=hg.size;omega,own:=h.own,c0:=(hcell 0).trans h.c0,c1:=(hcell 1).trans h.c1,c2:=by rw [hcell,h2];simp,c3:=(hcell 3).trans h.c3,c4:=(hcell 4).trans h.c4,c5:=(hcell 5).trans h.c5,c6:=(hcell 6).trans h.c6,c7:=(hcell 7).trans h.c7,fz:=fun o=>by rw [hfz];exact h.fz o,rowB:=hrow h.rowB,rowU:=hrow h.rowU,inb:=h.inb,inu:=h.inu,apart:=h.apart,maps:=?_,nodup:=h.nodup,enough:=by simp;omega,low:=fun k hs=>by have:=h.low k hs;have:=hg.size;omega,few:=h.few }
 intro j hj2
 obtain ⟨m1,m2⟩:=h.maps j hj2
 refine ⟨m1,?_⟩
 by_cases e:j=E.length
 ·subst e
  rw [getD_last,hb]
  exact hm
 ·rw [getD_pop E Z j e] at m2
  rw [getD_pop E Z' j e]
  refine m2.keep (hk _ m2.lt (fun e2=>e ?_))
  rw [← hb] at e2
  exact nodup_inj h.nodup hj2 hj e2
theorem map_same {Z Z':List Int × List Int} (h:MemR L S c va x (E++[Z]) w) (hj:E.length < x.bs.length) (hm:MapP L w x.bs[E.length] Z'.1 Z'.2):MemR L S c va x (E++[Z']) w :=
 (map_mem (Z':=Z') h hj rfl ⟨rfl,rfl,rfl,Nat.le_refl _,fun _ _ _=>rfl⟩ hm).1
end
theorem said_bad {L:List ByteArray} {x:RdX} {F:Ot} {U:Nat} (h:SaidR L x F U) (b:Bool) (y:RdX) (h1:y.us=x.us) (h2:y.fu=x.fu) (h3:(y.ft || (y.fo || y.fv))=((x.ft || (x.fo || x.fv)) || b)):SaidR L y (F.add (badO b)) U :=
 ⟨by rw [h1,h.us];exact (List.append_nil _).symm,by rw [h2,h.unk];simp [Ot.add,badO],by rw [h3,h.bad];rfl,by rw [h1];exact h.cnt,by rw [h1];exact h.inL⟩
set_option maxRecDepth 100000 in
set_option maxHeartbeats 8000000 in
theorem declare_any (S:Nat→Prop) (c:Nat) (a:Option Addr) (cap:Nat) (L:List ByteArray) (E:Blks) (X Y:List Int) (F:Ot) (U:Nat) (i:Int) (q:Bool) (w:World) (h:St S c a cap L (E++[(X,Y)]) F U w) (hi0:0≤i) (hi1:i < (L.length:Int)) :
  Calls Tryz.prog 87 #[.pointer (some ⟨c,0,none⟩),.int .i64 i,.bool q] w fun e w'=>e=.returned (.tuple #[])∧St S c a cap L (E++[putE q (X,Y) i]) (F.add (badO (inB ((sideL q X Y).map (sgAt L)) (sgAt L i)))) U w'∧Nxt S S w w':=by
 obtain ⟨⟨x,hM,hS⟩,hA⟩:=h
 obtain ⟨sb,off,rfl,hsc,hsm,hsz,hsn⟩:=hA.at hi0 hi1
 obtain ⟨av,cv,hvb,hcv,hcm,hn0,hsh⟩:=own_shape hM.rowB
 have hen:=hM.enough
 have hfew:=hM.few
 simp only [List.length_append,List.length_singleton] at hen
 have hj:E.length < x.bs.length:=by omega
 obtain ⟨g,rfl⟩:∃ g,av=some ⟨g,0,none⟩:=by
  cases av with
  | none=>exact absurd (hn0 rfl) (by omega)
  | some p=>obtain ⟨g,rfl,_⟩:=hsh p rfl;exact ⟨g,rfl⟩
 obtain ⟨b,hb⟩:∃ b,b=x.bs[E.length]:=⟨_,rfl⟩
 have hc0:=hM.c0
 have hc1:w.cell? ⟨c,1,none⟩=some (.slice (some ⟨g,0,none⟩) x.bs.length cv):=hvb▸hM.c1
 have hc2:w.cell? ⟨c,2,none⟩=some (.int .i64 ((E.length:Int)+1)):=by have:=hM.c2;simpa using this
 have hgj:w.cell? ⟨g,E.length,none⟩=some (.map (some b)):=by rw [hb];exact own_cell (hvb▸hM.rowB) E.length hj
 have hEl:(E.length:Int) < (x.bs.length:Int):=by omega
 have hE0:(0:Int)≤(E.length:Int):=by omega
 have hE2:((E.length:Int)+1) - 1=(E.length:Int):=by omega
 have hE3:(E.length:Int) < 20000:=by omega
 obtain ⟨ii,hii⟩:∃ ii:Nat,i=(ii:Int):=⟨i.toNat,by omega⟩
 subst hii
 have hsc':w.cell? ⟨sb,off+ii,none⟩=some (.string (sgAt L (ii:Int))):=hsc
 generalize hsg:sgAt L (ii:Int)=s at *
 have HM:Hid (MemR L S c (.slice (some ⟨sb,off,none⟩) L.length cap) x (E++[(X,Y)]) w):=hM
 have HJ:Hid (E.length < x.bs.length):=hj
 have HB:Hid (b=x.bs[E.length]):=hb
 clear hM hvb hcm hn0 hsh hen hfew hj hsc hb
 have hlt:=HM.out.lt
 have hwr:IntKind.i64.wrap (E.length:Int)=(E.length:Int):=IntWalk.i64_in _ (by omega)
 have hgz:=World.block_lt_of_cell? w _ hgj
 have kk:∀ (p:Addr) (v:Value),w.cell? p=some v→(w.alloc (.cells #[.string ⟨#[]⟩,.bool false] 129)).cell? p=some v:=fun p v hp=>by
  rw [← hp]
  exact World.cell?_of_block (w:=w) (a:=p) (Below.heap_alloc w _ _ (World.block_lt_of_cell? w p hp))
 have k0:=kk _ _ hc0
 have k1:=kk _ _ hc1
 have k2:=kk _ _ hc2
 have k3:=kk _ _ hgj
 have k4:=kk _ _ hsc'
 clear kk
 go_enter Tryz.func87,Tryz.ntmps87
 go_upto_region 0 with fail
 go_cut [6,7] from 10 to 43 (fun v6 v7 wc=>v6=.map (some b)∧v7=.pointer (some ⟨w.heap.size,0,none⟩)∧Below w.heap.size w wc∧wc.cell? ⟨w.heap.size,0,none⟩=some (.string s)∧wc.cell? ⟨w.heap.size,1,none⟩=some (.bool q))
 case first =>
  go_region
  all_goals go_wp2_with fail
  all_goals go_meet
  all_goals exact ⟨rfl,rfl,((Below.refl _ _).alloc (Nat.le_refl _) _).drew,by simp [go_sem],by simp [go_sem]⟩
 case rest =>
  obtain ⟨rfl,rfl,hB,m0,m1⟩:=hcut
  clear k0 k1 k2 k3 k4 hc0 hc1 hc2 hgj hsc'
  have HN:Hid (Nxt S S w wc):=Nxt.of_below S hB
  have HM2:Hid (MemR L S c (.slice (some ⟨sb,off,none⟩) L.length cap) x (E++[(X,Y)]) wc):=HM.out.call hB
  have hbm:MapP L wc b X Y:=by
   have h:=(HM2.out.maps E.length HJ.out).2
   rw [getD_last] at h
   rw [show b=x.bs[E.length]'HJ.out from HB.out]
   exact h
  obtain ⟨n,hn,hlk⟩:=hbm.look s q hsm
  have hlook:=hlk wc rfl
  clear hlk hB
  have hib:=hbm.inb s q
  by_cases hin:0≤fstP L (sideL q X Y) s
  rotate_left
  ·obtain ⟨w4,hrun,hm4,hg4⟩:=hbm.put (ii:Int) q (by rw [hsg];exact hsm) hi0 (by rw [hsg];exact hin)
   rw [hsg] at hrun
   have HF:Hid (MemR L S c (.slice (some ⟨sb,off,none⟩) L.length cap) x (E++[putE q (X,Y) (ii:Int)]) w4∧Nxt S S wc w4):=map_mem HM2.out HJ.out HB.out.symm hg4 hm4
   have HIB:Hid (inB ((sideL q X Y).map (sgAt L)) s=false):=hib.trans (decide_eq_false hin)
   rw [decide_eq_false hin] at hlook
   clear hib hbm hm4 hg4 hn
   go_wp2
   go_end0
   obtain ⟨h1,h2⟩:=HF.out
   exact ⟨rfl,⟨⟨_,h1,by rw [HIB.out];exact said_bad hS _ _ rfl rfl (by simp)⟩,hA.nxt (HN.out.trans h2)⟩,HN.out.trans h2⟩
  ·have hm4:=hbm.again (ii:Int) q hi0 (by rw [hsg];exact hin)
   have HF:Hid (MemR L S c (.slice (some ⟨sb,off,none⟩) L.length cap) x (E++[putE q (X,Y) (ii:Int)]) wc):=map_same HM2.out HJ.out (by rw [show x.bs[E.length]'HJ.out=b from HB.out.symm];exact hm4)
   have k5:=HF.out.c5
   have f5:=HF.out.fz 5
   have HF2:Hid (MemR L S c (.slice (some ⟨sb,off,none⟩) L.length cap) { x with ft:=true } (E++[putE q (X,Y) (ii:Int)]) (wc.setCell ⟨c,5,none⟩ (.bool true))∧Nxt S S wc (wc.setCell ⟨c,5,none⟩ (.bool true))):=⟨HF.out.flag5 true,Nxt.set S wc _ HF.out.own⟩
   have HIB:Hid (inB ((sideL q X Y).map (sgAt L)) s=true):=hib.trans (decide_eq_true hin)
   rw [decide_eq_true hin] at hlook
   clear hib hbm hm4 hn HF
   go_wp2
   refine bodyPost_ret (results_none rfl _ _ _) rfl ?_
   obtain ⟨h1,h2⟩:=HF2.out
   exact ⟨rfl,⟨⟨_,h1,by rw [HIB.out];exact said_bad hS _ _ rfl rfl (by simp)⟩,hA.nxt (HN.out.trans h2)⟩,HN.out.trans h2⟩
end Q
end Go.Proofs.YtdgihicpjonjgaaGreatDoor
namespace Go.Proofs.YtdgihicpjonjgaaGreatDoor
open Go.RowKit
namespace Q
set_option maxRecDepth 100000 in
set_option maxHeartbeats 8000000 in
theorem declaredAt_any (L:List ByteArray) (S:Nat→Prop) (c:Nat) (va:Value) (x:RdX) (E:Blks) (s:ByteArray) (q:Bool) (w:World) (hM:MemR L S c va x E w) (hs:s.size≤maxLen) :
  Calls Tryz.prog 153 #[.pointer (some ⟨c,0,none⟩),.agg #[.string s,.bool q]] w fun e w'=>e=.returned (.int .i64 (resQ L q E s))∧Below w.heap.size w w':=by
 obtain ⟨av,cv,hvb,hcv,hcm,hn0,hsh⟩:=own_shape hM.rowB
 have hen:=hM.enough
 have hfew:=hM.few
 have hlt:=hM.lt
 obtain ⟨w1,hw1⟩:∃ w1,w1=w.alloc (.cells #[.string s,.bool q] 129):=⟨_,rfl⟩
 have hb1:Below w.heap.size w w1:=by rw [hw1];exact balloc (Below.refl _ _) _
 have hz1:w1.heap.size=w.heap.size+1:=by rw [hw1];simp
 have hM1:=hM.call hb1
 have b0:w1.cell? ⟨w.heap.size,0,none⟩=some (.string s):=by rw [hw1];simp [go_sem]
 have b1:w1.cell? ⟨w.heap.size,1,none⟩=some (.bool q):=by rw [hw1];simp [go_sem]
 have c2:=hM1.c2
 have HB1:Hid (Below w.heap.size w w1):=hb1
 have hE3:(E.length:Int)≤20000:=by omega
 go_enter Tryz.func153,Tryz.ntmps153
 clear hb1 hM
 subst hw1
 go_wp2
 go_loopw [5] (fun v5 wr=>∃ k:Nat,v5=.int .i64 ((k:Int) - 1)∧k≤E.length∧Below (w.alloc (.cells #[.string s,.bool q] 129)).heap.size (w.alloc (.cells #[.string s,.bool q] 129)) wr∧Hid (resQ L q (E.take k) s=resQ L q E s)) (fun v5 _=>(intOf v5+1).toNat)
 case atStart=>exact ⟨E.length,rfl,Nat.le_refl _,Below.refl _ _,by rw [List.take_length];rfl⟩
 case round =>
  obtain ⟨k,rfl,hk,hB,HA⟩:=hrel
  have HBw:Hid (Below w.heap.size w wr):=HB1.out.trans (hB.mono (by omega))
  cases k with
  | zero =>
   have HE:Hid (resQ L q E s=-1):=HA.out.symm
   have h0:((0:Nat):Int) - 1=-1:=rfl
   rw [h0]
   go_wp2
   go_ret
   exact ⟨by rw [HE.out];rfl,HBw.out⟩
  | succ k =>
   have hMr:=hM1.call hB
   have hj:k < x.bs.length:=by omega
   obtain ⟨g,rfl⟩:∃ g,av=some ⟨g,0,none⟩:=by
    cases av with
    | none=>exact absurd (hn0 rfl) (by omega)
    | some p=>obtain ⟨g,rfl,_⟩:=hsh p rfl;exact ⟨g,rfl⟩
   have hmap:=(hMr.maps k hj).2
   have hc1:wr.cell? ⟨c,1,none⟩=some (.slice (some ⟨g,0,none⟩) x.bs.length cv):=hvb▸hMr.c1
   have hgj:wr.cell? ⟨g,k,none⟩=some (.map (some x.bs[k])):=own_cell (hvb▸hMr.rowB) k hj
   have m0:=(hB.cell (p:=⟨w.heap.size,0,none⟩) (by show w.heap.size < _;omega)).trans b0
   have m1:=(hB.cell (p:=⟨w.heap.size,1,none⟩) (by show w.heap.size < _;omega)).trans b1
   generalize x.bs[k]=b at hmap hgj
   obtain ⟨n,hn,hlk⟩:=hmap.look s q hs
   have hlook:=hlk wr rfl
   have hlookd:∀ m,_:=fun m=>hlk (wr.drewN m) rfl
   have e1:(((k+1:Nat):Int) - 1)=(k:Int):=by omega
   rw [e1]
   have hk0:(0:Int)≤(k:Int):=by omega
   have hk1:(k:Int) < (x.bs.length:Int):=by omega
   clear hmap hlk hMr e1
   have HT:Hid (resQ L q E s=if 0≤fstP L (sideL q (E.getD k ([],[])).1 (E.getD k ([],[])).2) s then fstP L (sideL q (E.getD k ([],[])).1 (E.getD k ([],[])).2) s else resQ L q (E.take k) s):=by
    show _=_
    rw [← HA.out,List.take_succ_eq_append_getElem (by omega:k < E.length),resQ_snoc,show E.getD k ([],[])=E[k] by simp [List.getD,(by omega:k < E.length)]]
   by_cases hin:0≤fstP L (sideL q (E.getD k ([],[])).1 (E.getD k ([],[])).2) s
   rotate_left
   ·rw [decide_eq_false hin] at hlook
    simp only [decide_eq_false hin] at hlookd
    have HA2:Hid (resQ L q (E.take k) s=resQ L q E s):=(by rw [HT.out,if_neg hin]:resQ L q (E.take k) s=resQ L q E s)
    clear hin hn HA HT
    go_wp2_with fail
    go_quiet (fail)
    go_wp2
    go_roundw
    case rel=>exact ⟨k,by go_num,by omega,⟨hB.os,hB.tape,hB.output,hB.size,hB.block⟩,HA2.out⟩
    case measure=>simp [intOf]
   ·have HE:Hid (n=resQ L q E s):=(by rw [HT.out,if_pos hin];exact hn hin:n=resQ L q E s)
    rw [decide_eq_true hin] at hlook
    simp only [decide_eq_true hin] at hlookd
    clear hin hn HA HT
    go_wp2_with fail
    go_quiet (fail)
    go_wp2
    go_ret
    have hBx:=HBw.out
    exact ⟨by rw [← HE.out];rfl,⟨hBx.os,hBx.tape,hBx.output,hBx.size,hBx.block⟩⟩
section
variable {L:List ByteArray} {S:Nat→Prop} {c:Nat} {va:Value} {x:RdX} {E:Blks} {w:World}
theorem use_mem (h:MemR L S c va x E w) {u:Int × Int × Bool} {T:TypeId} {w3:World} {v':Value}
  (hown:w3.ownsRow (c+1) 108 3 v' (x.us.length+1) (flatU x.us++[.int .i64 u.1,.int .i64 u.2.1,.bool u.2.2]))
  (hg:(w.alloc (.cells #[.int .i64 u.1,.int .i64 u.2.1,.bool u.2.2] T)).grownBy w3 x.vu.ownBlock) (hwh:∀ g,v'.ownBlock=some g→x.vu.ownBlock=some g∨g=w.heap.size+1) :
  ∃ S',MemR L S' c va { x with vu:=v',us:=x.us++[u] } E (w3.setCell ⟨c,3,none⟩ v')∧Nxt S S' w (w3.setCell ⟨c,3,none⟩ v'):=by
 have hlt:=h.lt
 have hvu:∀ g,x.vu.ownBlock=some g→c < g∧g < w.heap.size:=fun g hg=>by have:=World.ownsRow.lt h.rowU g hg;omega
 have hz3:w.heap.size+1≤w3.heap.size:=by have:=hg.size;simpa using this
 have hk3:∀ k,k < w.heap.size→x.vu.ownBlock≠some k→w3.heap[k]?=w.heap[k]?:=fun k hk hn=>(hg.block k (by simp;omega) (fun e=>hn e.symm)).trans (Below.heap_alloc _ _ _ hk)
 have hc3:w3.heap[c]?=w.heap[c]?:=hk3 c hlt (fun e=>by have:=(hvu c e).1;omega)
 obtain ⟨wf,hwf⟩:∃ wf,wf=w3.setCell ⟨c,3,none⟩ v':=⟨_,rfl⟩
 have hkf:∀ k,k≠c→wf.heap[k]?=w3.heap[k]?:=fun k hk=>by rw [hwf,Below.heap_setCell _ _ _ _ hk]
 have hzf:wf.heap.size=w3.heap.size:=by rw [hwf];simp [World.setCell]
 have hcell:∀ o,o≠3→wf.cell? ⟨c,o,none⟩=w.cell? ⟨c,o,none⟩:=fun o h1=>by
  rw [hwf,setC_other _ _ _ (Ne.symm h1)]
  exact World.cell?_of_block (w:=w) (a:=⟨c,o,none⟩) hc3
 have hfz:∀ o,wf.frozen? ⟨c,o,none⟩=false:=fun o=>by
  rw [hwf,World.frozen?_setCell]
  exact (World.frozen?_of_block (w:=w) (a:=⟨c,o,none⟩) hc3).trans (h.fz o)
 have hc1:wf.cell? ⟨c,3,none⟩=some v':=by
  rw [hwf]
  exact World.cell?_setCell_same _ _ _ ((World.cell?_of_block (w:=w) (a:=⟨c,3,none⟩) hc3).trans h.c3)
 rw [← hwf]
 refine ⟨fun k=>S k∨v'.ownBlock=some k,?_,?_⟩
 ·refine { lt:=by omega,own:=Or.inl h.own,c0:=(hcell 0 (by decide)).trans h.c0,c1:=(hcell 1 (by decide)).trans h.c1,c2:=(hcell 2 (by decide)).trans h.c2,c3:=hc1,c4:=(hcell 4 (by decide)).trans h.c4,c5:=(hcell 5 (by decide)).trans h.c5,c6:=(hcell 6 (by decide)).trans h.c6,c7:=(hcell 7 (by decide)).trans h.c7,fz:=hfz,rowB:=?_,rowU:=?_,inb:=fun g hg=>Or.inl (h.inb g hg),inu:=fun g hg=>Or.inr hg,apart:=?_,maps:=?_,nodup:=h.nodup,enough:=h.enough,low:=?_,few:=h.few }
  ·exact own_kept h.rowB (fun g hg=>(hkf g (by have:=World.ownsRow.lt h.rowB g hg;omega)).trans (hk3 g (World.ownsRow.lt h.rowB g hg).2 (fun e=>h.apart g hg e)))
  ·have:=own_kept hown (w':=wf) (fun g hg=>hkf g (by have:=World.ownsRow.lt hown g hg;omega))
   rw [flatU_snoc]
   simpa using this
  ·intro g hg hu
   rcases hwh g hu with e | e
   ·exact h.apart g hg e
   ·have:=(World.ownsRow.lt h.rowB g hg).2
    omega
  ·intro j hj
   obtain ⟨m1,m2⟩:=h.maps j hj
   exact ⟨Or.inl m1,m2.keep ((hkf _ (m2.not_c h.c0)).trans (hk3 _ m2.lt (fun e=>own_not_map h.rowU m2 e rfl)))⟩
  ·rintro k (hs | hv)
   ·have:=h.low k hs
    omega
   ·have:=World.ownsRow.lt hown k hv
    omega
 ·refine ⟨?_,?_,?_,by omega,fun k hk hn=>(hkf k (fun e=>hn (e▸h.own))).trans (hk3 k hk (fun e=>hn (h.inu k e))),?_⟩
  ·rw [hwf];exact hg.os
  ·rw [hwf];exact hg.tape
  ·rw [hwf];exact hg.output
  ·rintro k (hs | hv)
   ·exact Or.inl hs
   ·rcases hwh k hv with e | e
    ·exact Or.inl (h.inu k e)
    ·exact Or.inr (by omega)
theorem said_use {F:Ot} {U:Nat} {i n:Int} {q:Bool} (h:SaidR L x F U) (h0:0≤i) (h1:i < (L.length:Int)) (hn:n=resQ L q E (sgAt L i)) (y:RdX) (hu:y.us=x.us++[(i,n,q)]) (hf:y.fu=(x.fu || n == -1)) (hb:(y.ft || (y.fo || y.fv))=(x.ft || (x.fo || x.fv))):SaidR L y (F.add (usO L q E i)) (U+1):=by
 have hc:=h.cnt
 refine ⟨?_,?_,?_,by rw [hu];simp;omega,fun u hm=>?_⟩
 ·rw [hu,h.us,hn]
  rfl
 ·rw [hf,h.unk,hn]
  simp [Ot.add,usO]
 ·rw [hb,h.bad]
  simp [Ot.add,usO]
 ·rw [hu] at hm
  rcases List.mem_append.mp hm with hm | hm
  ·exact h.inL u hm
  ·rw [List.mem_singleton] at hm
   subst hm
   exact ⟨h0,h1⟩
end
set_option maxRecDepth 100000 in
set_option maxHeartbeats 8000000 in
theorem use_any (S:Nat→Prop) (c:Nat) (a:Option Addr) (cap:Nat) (L:List ByteArray) (E:Blks) (F:Ot) (U:Nat) (i:Int) (q:Bool) (w:World) (h:St S c a cap L E F U w) (hi0:0≤i) (hi1:i < (L.length:Int)) (hU:U≤2000) :
  Calls Tryz.prog 143 #[.pointer (some ⟨c,0,none⟩),.int .i64 i,.bool q] w fun e w'=>e=.returned (.tuple #[])∧∃ S',St S' c a cap L E (F.add (usO L q E i)) (U+1) w'∧Nxt S S' w w':=by
 obtain ⟨⟨x,hM,hS⟩,hA⟩:=h
 obtain ⟨sb,off,rfl,hsc,hsm,hsz,hsn⟩:=hA.at hi0 hi1
 obtain ⟨i0,hi,hz0,hz1,hz2⟩:=info_parts infoU
 obtain ⟨ii,hii⟩:∃ ii:Nat,i=(ii:Int):=⟨i.toNat,by omega⟩
 subst hii
 have hsc':w.cell? ⟨sb,off+ii,none⟩=some (.string (sgAt L (ii:Int))):=hsc
 have hc0:=hM.c0
 clear hsc
 obtain ⟨s,hs⟩:∃ s,s=sgAt L (ii:Int):=⟨_,rfl⟩
 rw [← hs] at hsc' hsm
 have HS:Hid (s=sgAt L (ii:Int)):=hs
 have hcnt:=hS.cnt
 clear hs
 go_enter Tryz.func143,Tryz.ntmps143
 go_wp2_with fail
 refine (declaredAt_any L S c _ x E s q _ hM hsm).mono ?_
 rintro e w1 ⟨rfl,hb1⟩
 obtain ⟨n,hnr⟩:∃ n,n=resQ L q E s:=⟨_,rfl⟩
 rw [← hnr]
 have HM1:Hid (MemR L S c (.slice (some ⟨sb,off,none⟩) L.length cap) x E w1):=hM.call hb1
 have HN1:Hid (Nxt S S w w1):=Nxt.of_below S hb1
 rw [HS.out] at hnr
 have HNR:Hid (n=resQ L q E (sgAt L (ii:Int))):=hnr
 clear hnr hM hc0 hsc' hb1
 obtain ⟨av,cv,hvu,hcv,hcm,hn0,hsh⟩:=own_shape HM1.out.rowU
 have HVU:Hid (x.vu=.slice av x.us.length cv):=hvu
 clear hvu hcv hcm hn0 hsh
 -- the rest,from whatever world and whatever flag
 have hrest:∀ (y:RdX) (W:World),y.us=x.us→y.vu=x.vu→(y.ft || (y.fo || y.fv))=(x.ft || (x.fo || x.fv))→y.fu=(x.fu || n == -1)→MemR L S c (.slice (some ⟨sb,off,none⟩) L.length cap) y E W→Nxt S S w W→Hid (∀ w3 v',w3.ownsRow (c+1) 108 3 v' (x.us.length+1) (flatU x.us++[.int .i64 (ii:Int),.int .i64 n,.bool q])→(W.alloc (.cells #[.int .i64 (ii:Int),.int .i64 n,.bool q] 108)).grownBy w3 (Value.slice av x.us.length cv).ownBlock→(∀ g,v'.ownBlock=some g→(Value.slice av x.us.length cv).ownBlock=some g∨g=W.heap.size+1) →
   ∃ S',St S' c (some ⟨sb,off,none⟩) cap L E (F.add (usO L q E (ii:Int))) (U+1) (w3.setCell ⟨c,3,none⟩ v')∧Nxt S S' w (w3.setCell ⟨c,3,none⟩ v')):=fun y W e1 e2 e3 e4 hMy hNy w3 v' h1 h2 h3=>by
  obtain ⟨S',k1,k2⟩:=use_mem (u:=((ii:Int),n,q)) hMy (by rw [e1];exact h1) (by rw [e2,HVU.out];exact h2) (by rw [e2,HVU.out];exact h3)
  exact ⟨S',⟨⟨_,k1,said_use hS hi0 hi1 HNR.out _ (by rw [e1]) e4 e3⟩,hA.nxt (hNy.trans k2)⟩,hNy.trans k2⟩
 have hcc:∀ (W:World) (v0 v1 v2:Value),∀ j u,[v0,v1,v2][j]?=some u→(W.alloc (.cells #[v0,v1,v2] 108)).cell? ((⟨W.heap.size,0,none⟩:Addr).add j)=some u:=fun W v0 v1 v2 j u hj=>by
  obtain ⟨t0,t1,t2,_⟩:=bbox0 W v0 v1 v2 108
  have hadd:∀ j,(⟨W.heap.size,0,none⟩:Addr).add j=⟨W.heap.size,j,none⟩:=fun j=>by unfold Addr.add;split <;> simp_all
  rw [hadd]
  match j,hj with
  | 0,hj=>simp at hj;subst hj;exact t0
  | 1,hj=>simp at hj;subst hj;exact t1
  | 2,hj=>simp at hj;subst hj;exact t2
 have hgk:∀ (W w3:World) (v0 v1 v2:Value),c < W.heap.size→(∀ g,(Value.slice av x.us.length cv).ownBlock=some g→c+1≤g)→(W.alloc (.cells #[v0,v1,v2] 108)).grownBy w3 (Value.slice av x.us.length cv).ownBlock→w3.cell? ⟨c,3,none⟩=W.cell? ⟨c,3,none⟩∧w3.frozen? ⟨c,3,none⟩=W.frozen? ⟨c,3,none⟩:=fun W w3 v0 v1 v2 hlt hlo hg=>by
  have hb:w3.heap[c]?=W.heap[c]?:=by
   rw [hg.block c (by simp;omega) (fun e=>by have:=hlo c e.symm;omega),Below.heap_alloc _ _ _ hlt]
  exact ⟨World.cell?_of_block (w:=W) (a:=⟨c,3,none⟩) hb,World.frozen?_of_block (w:=W) (a:=⟨c,3,none⟩) hb⟩
 have HCC:Hid (∀ (W:World) (v0 v1 v2:Value),∀ j u,[v0,v1,v2][j]?=some u→(W.alloc (.cells #[v0,v1,v2] 108)).cell? ((⟨W.heap.size,0,none⟩:Addr).add j)=some u):=hcc
 have HGK:Hid (∀ (W w3:World) (v0 v1 v2:Value),c < W.heap.size→(∀ g,(Value.slice av x.us.length cv).ownBlock=some g→c+1≤g)→(W.alloc (.cells #[v0,v1,v2] 108)).grownBy w3 (Value.slice av x.us.length cv).ownBlock→w3.cell? ⟨c,3,none⟩=W.cell? ⟨c,3,none⟩∧w3.frozen? ⟨c,3,none⟩=W.frozen? ⟨c,3,none⟩):=hgk
 have HLO:Hid (∀ g,(Value.slice av x.us.length cv).ownBlock=some g→c+1≤g):=fun g hg=>(World.ownsRow.lt HM1.out.rowU g (by rw [HVU.out];exact hg)).1
 have hcc2:∀ u∈[Value.int .i64 (ii:Int),.int .i64 n,.bool q],u.oneCell'=true:=fun u hu=>by simp at hu;rcases hu with rfl | rfl | rfl <;> rfl
 have hcc3:x.us.length+1≤maxLen:=by unfold maxLen;omega
 have hcc4:(x.us.length+1) * 24≤140737488355328:=by omega
 clear hcc hgk
 by_cases hn:n=-1
 ·subst hn
  have k4:=HM1.out.c4
  have f4:=HM1.out.fz 4
  have HR:=hrest { x with fu:=true } (w1.setCell ⟨c,4,none⟩ (.bool true)) rfl rfl rfl (by simp) (HM1.out.flag4 true) (HN1.out.trans (Nxt.set S w1 _ HM1.out.own))
  have HMW:Hid (MemR L S c (.slice (some ⟨sb,off,none⟩) L.length cap) { x with fu:=true } E (w1.setCell ⟨c,4,none⟩ (.bool true))):=HM1.out.flag4 true
  go_upto_region 3 with fail
  obtain ⟨W,hW⟩:∃ W,W=w1.setCell ⟨c,4,none⟩ (.bool true):=⟨_,rfl⟩
  rw [← hW] at HR HMW ⊢
  clear hW k4 f4
  have k3:W.cell? ⟨c,3,none⟩=some (.slice av x.us.length cv):=HVU.out▸HMW.out.c3
  have f3:=HMW.out.fz 3
  have hlt:=HMW.out.lt
  have HO:Hid (W.ownsRow (c+1) 108 3 (.slice av x.us.length cv) x.us.length (flatU x.us)):=HVU.out▸HMW.out.rowU
  have hcc1:=HCC.out W (.int .i64 (ii:Int)) (.int .i64 (-1)) (.bool q)
  have hcc5:c+1≤(W.alloc (.cells #[.int .i64 (ii:Int),.int .i64 (-1),.bool q] 108)).heap.size:=by simp;omega
  clear hrest
  go_wp2_with (at_builtin;refine wpList_append_at _ rfl (.tmp 28) (.tmp 33) 41 rfl (c+1) 108 i0 (.agg #[.int .i64 0,.int .i64 0,.bool false]) 3 24 Tryz.underlying41 hi hz0 hz1 hz2 rfl (by decide) _ _ _ rfl (World.ownsRow.alloc HO.out _) ⟨W.heap.size,0,none⟩ 1 1 [.int .i64 (ii:Int),.int .i64 (-1),.bool q] rfl rfl hcc1 hcc2 hcc3 hcc4 hcc5 ?_)
  intro v' w3 hown hgrow hwh
  obtain ⟨av',cv',rfl,_,_,_,_⟩:=own_shape hown
  obtain ⟨g1,g2⟩:=HGK.out W w3 _ _ _ hlt HLO.out hgrow
  have p3:=g1.trans k3
  have q3:=g2.trans f3
  have HFIN:Hid (∃ S',St S' c (some ⟨sb,off,none⟩) cap L E (F.add (usO L q E (ii:Int))) (U+1) (w3.setCell ⟨c,3,none⟩ (.slice av' (x.us.length+1) cv'))∧Nxt S S' w (w3.setCell ⟨c,3,none⟩ (.slice av' (x.us.length+1) cv'))):=HR.out w3 _ hown hgrow (fun g hg=>by have:=hwh g hg;simpa using this)
  clear HR hown hgrow hwh g1 g2 hcc1 hcc2 hcc3 hcc4 hcc5 HO HMW k3 f3
  go_wp2
  go_end0
  exact ⟨rfl,HFIN.out⟩
 ·have hne:(n == -1)=false:=by simp [hn]
  have HR:=hrest x w1 rfl rfl rfl (by simp [hn]) HM1.out HN1.out
  have HMW:Hid (MemR L S c (.slice (some ⟨sb,off,none⟩) L.length cap) x E w1):=HM1.out
  have k3:w1.cell? ⟨c,3,none⟩=some (.slice av x.us.length cv):=HVU.out▸HMW.out.c3
  have f3:=HMW.out.fz 3
  have hlt:=HMW.out.lt
  have HO:Hid (w1.ownsRow (c+1) 108 3 (.slice av x.us.length cv) x.us.length (flatU x.us)):=HVU.out▸HMW.out.rowU
  have hcc1:=HCC.out w1 (.int .i64 (ii:Int)) (.int .i64 n) (.bool q)
  have hcc5:c+1≤(w1.alloc (.cells #[.int .i64 (ii:Int),.int .i64 n,.bool q] 108)).heap.size:=by simp;omega
  clear hrest
  go_wp2_with (at_builtin;refine wpList_append_at _ rfl (.tmp 28) (.tmp 33) 41 rfl (c+1) 108 i0 (.agg #[.int .i64 0,.int .i64 0,.bool false]) 3 24 Tryz.underlying41 hi hz0 hz1 hz2 rfl (by decide) _ _ _ rfl (World.ownsRow.alloc HO.out _) ⟨w1.heap.size,0,none⟩ 1 1 [.int .i64 (ii:Int),.int .i64 n,.bool q] rfl rfl hcc1 hcc2 hcc3 hcc4 hcc5 ?_)
  intro v' w3 hown hgrow hwh
  obtain ⟨av',cv',rfl,_,_,_,_⟩:=own_shape hown
  obtain ⟨g1,g2⟩:=HGK.out w1 w3 _ _ _ hlt HLO.out hgrow
  have p3:=g1.trans k3
  have q3:=g2.trans f3
  have HFIN:Hid (∃ S',St S' c (some ⟨sb,off,none⟩) cap L E (F.add (usO L q E (ii:Int))) (U+1) (w3.setCell ⟨c,3,none⟩ (.slice av' (x.us.length+1) cv'))∧Nxt S S' w (w3.setCell ⟨c,3,none⟩ (.slice av' (x.us.length+1) cv'))):=HR.out w3 _ hown hgrow (fun g hg=>by have:=hwh g hg;simpa using this)
  clear HR hown hgrow hwh g1 g2 hcc1 hcc2 hcc3 hcc4 hcc5 HO HMW k3 f3
  go_wp2
  go_end0
  exact ⟨rfl,HFIN.out⟩
end Q
end Go.Proofs.YtdgihicpjonjgaaGreatDoor
