import Derived.Test.YtdgihicpjonjgaaGreatDoorZPlain
import Derived.Test.YtdgihicpjonjgaaGreatDoorZBase
import Derived.Maps.Keyed
import Derived.DeepKeys4
import Derived.MapKept
import Derived.Laws.AppendOwn
import Derived.OwnWalk
namespace Go.Proofs.YtdgihicpjonjgaaGreatDoor
open Go.RowKit
def ment (s:ByteArray) (q:Bool):Value:=.agg #[.string s,.bool q]
theorem mentLaw:WideMaps.KeyLaw Tryz.prog 129:=deep_law (m:=3) (by omega) (by kernel_rfl) (by kernel_rfl) (by kernel_rfl)
theorem mentCells:Tryz.prog.cellsOf 129=2:=by kernel_rfl
theorem mentType:Tryz.prog.keyType 129=true:=by kernel_rfl
theorem mentSize:∃ n,Tryz.prog.types.size+1=n+1+1:=by
 have h:1≤Tryz.prog.types.size:=of_decide_eq_true (by kernel_rfl)
 generalize Tryz.prog.types.size=m at h
 exact ⟨m - 1,by omega⟩
theorem cellsStr:Tryz.prog.cellsOf 9=1:=by kernel_rfl
theorem cellsBool:Tryz.prog.cellsOf 4=1:=by kernel_rfl
theorem litsM (n:Nat) (s:ByteArray) (q:Bool) (hs:s.size≤maxLen):Tryz.prog.keyLits (n+1+1) 129 [.string s,.bool q]=some [.string s.data.toList,.bool q]:=by
 unfold Program.keyLits
 rw [Tryz.underlying129]
 simp [Program.keyLits,mentCells,cellsStr,cellsBool,Tryz.underlying9,Tryz.underlying4,hs]
theorem keyM (s:ByteArray) (q:Bool) (hs:s.size≤maxLen):∃ l,keyOf Tryz.prog 129 (ment s q)=some l:=by
 have hf:(ment s q).formed Tryz.prog 129=true:=by
  unfold ment Value.formed
  rw [Tryz.underlying129]
  simp [mentCells]
 refine ⟨.string (keyBytes [.string s.data.toList,.bool q]),?_⟩
 obtain ⟨n,hn⟩:=mentSize
 have hc:(ment s q).cells.toList=[.string s,.bool q]:=rfl
 unfold keyOf
 rw [Tryz.underlying129]
 dsimp only
 rw [mentType,hf,hc,hn,litsM n s q hs]
 rfl
def sideL (q:Bool) (X Y:List ByteArray):List ByteArray:=if q then Y else X
def EntM (es:List MapEntry) (X Y:List ByteArray):Prop:=(∀ e∈es,∃ s q n,e.key=ment s q∧s.size≤maxLen∧e.val=.int .i64 n∧0≤n)∧(∀ e∈es,∀ e'∈es,e.key=e'.key→e.val=e'.val)∧∀ s q,(∃ e∈es,e.key=ment s q)↔s∈sideL q X Y
def MapP (w:World) (b:Nat) (X Y:List ByteArray):Prop:=∃ es clock,w.heap[b]?=some (.map es clock)∧EntM es.toList X Y
theorem MapP.keep {w w':World} {b:Nat} {X Y:List ByteArray} (h:MapP w b X Y) (hk:w'.heap[b]?=w.heap[b]?):MapP w' b X Y:=by
 obtain ⟨es,clock,h1,h2⟩:=h
 exact ⟨es,clock,hk.trans h1,h2⟩
theorem MapP.lt {w:World} {b:Nat} {X Y:List ByteArray} (h:MapP w b X Y):b < w.heap.size:=by
 obtain ⟨es,clock,h1,_⟩:=h
 exact (Array.getElem?_eq_some_iff.1 h1).1
theorem ment_inj {s s':ByteArray} {q q':Bool} (h:ment s q=ment s' q'):s=s'∧q=q':=by
 unfold ment at h
 injection h with h
 simp at h
 exact h
theorem MapP.put {w:World} {b:Nat} {X Y:List ByteArray} (h:MapP w b X Y) (s:ByteArray) (q:Bool) (n:Int) (hs:s.size≤maxLen) (hn:0≤n) (hno:inB (sideL q X Y) s=false) :
  ∃ w',(Instr.mapUpdate 126 (.map (some b)) (.agg #[.string s,.bool q]) (.int .i64 n)).run Tryz.prog w=.ok () w'∧MapP w' b (if q then X else X++[s]) (if q then Y++[s] else Y)∧w.grownBy w' (some b):=by
 obtain ⟨es,clock,hb,hE,hU,hm⟩:=h
 obtain ⟨l,hl⟩:=keyM s q hs
 have hkeys:∀ e∈es.toList,∃ l,keyOf Tryz.prog 129 e.key=some l:=fun e he=>by
  obtain ⟨s',q',n,hk,hs',_⟩:=hE e he
  rw [hk]
  exact keyM s' q' hs'
 have hnot:∀ e∈es.toList,e.key≠ment s q:=fun e he hk=>by
  have:=(inB_iff _ _).mpr ((hm s q).mp ⟨e,he,hk⟩)
  rw [hno] at this
  cases this
 rcases mentLaw.find w hl es.toList hkeys with ⟨hf,_⟩ | ⟨j,e,_,hj,hk⟩
 ·have hck:=mentLaw.check w false hl
  refine ⟨{ w with heap:=w.heap.setIfInBounds b (.map (es.push { key:=ment s q,val:=.int .i64 n,born:=clock }) (clock+1)) },?_,⟨es.push { key:=ment s q,val:=.int .i64 n,born:=clock },clock+1,?_,?_,?_,?_⟩,⟨rfl,rfl,rfl,by simp,fun k hk hkb=>?_⟩⟩
  ·unfold ment at hck hf
   simp [Instr.mapUpdate,run_underlying Tryz.underlying126,MapKept.run_getObj_map hb,hck,hf,MapKept.run_setObj_map _ hb,Result.andThen,ment]
  ·have hlt:b < w.heap.size:=(Array.getElem?_eq_some_iff.1 hb).1
   simp [hlt]
  ·intro e he
   rw [Array.toList_push,List.mem_append,List.mem_singleton] at he
   rcases he with he | rfl
   ·exact hE e he
   ·exact ⟨s,q,n,rfl,hs,rfl,hn⟩
  ·intro e he e' he' hee
   rw [Array.toList_push,List.mem_append,List.mem_singleton] at he he'
   rcases he with he | rfl
   ·rcases he' with he' | rfl
    ·exact hU e he e' he' hee
    ·exact absurd hee (hnot e he)
   ·rcases he' with he' | rfl
    ·exact absurd hee.symm (hnot e' he')
    ·rfl
  ·intro s' q'
   rw [Array.toList_push]
   have h1:(∃ e∈es.toList++[({ key:=ment s q,val:=.int .i64 n,born:=clock }:MapEntry)],e.key=ment s' q')↔(∃ e∈es.toList,e.key=ment s' q')∨ment s q=ment s' q':=by
    constructor
    ·rintro ⟨e,he,hk⟩
     rcases List.mem_append.mp he with he | he
     ·exact Or.inl ⟨e,he,hk⟩
     ·rw [List.mem_singleton] at he
      rw [he] at hk
      exact Or.inr hk
    ·rintro (⟨e,he,hk⟩ | hk)
     ·exact ⟨e,List.mem_append.mpr (Or.inl he),hk⟩
     ·exact ⟨_,List.mem_append.mpr (Or.inr (List.mem_singleton.mpr rfl)),hk⟩
   rw [h1,hm s' q']
   constructor
   ·rintro (hx | hx)
    ·cases q <;> cases q' <;> simp [sideL] at hx ⊢ <;> first | exact hx | exact Or.inl hx
    ·obtain ⟨rfl,rfl⟩:=ment_inj hx
     cases q <;> simp [sideL]
   ·intro hx
    cases q <;> cases q' <;> simp [sideL] at hx ⊢
    ·rcases hx with hx | rfl
     ·exact Or.inl hx
     ·exact Or.inr rfl
    ·exact Or.inl hx
    ·exact Or.inl hx
    ·rcases hx with hx | rfl
     ·exact Or.inl hx
     ·exact Or.inr rfl
  ·simp [Array.getElem?_setIfInBounds]
   intro hbk
   exact absurd (by rw [hbk]) hkb
 ·exact absurd hk (hnot e (List.mem_of_getElem? hj))
end Go.Proofs.YtdgihicpjonjgaaGreatDoor
namespace Go.Proofs.YtdgihicpjonjgaaGreatDoor
open Go.RowKit
section
variable {P:Program}
theorem run_append_at (w:World) (base:Nat) (t ty e:TypeId) (i:TypeInfo) (z:Value) (size bytes:Nat) (ht:P.underlying t=some (.slice e)) (hi:P.info? e=some i) (hz:i.zero=some z)
  (hsize:i.size=size) (hby:i.bytes=bytes) (hzs:z.cells.size=size) (hsz:0 < size)
  (v:Value) (n:Nat) (xs:List Value) (hown:w.ownsRow base e size v n xs)
  (a:Addr) (m c:Nat) (news:List Value) (hl:news.length=m * size) (hnews:∀ j u,news[j]?=some u→w.cell? (a.add j)=some u) (h1:∀ u∈news,u.oneCell'=true)
  (h63:n+m≤maxLen) (hbytes:(n+m) * bytes≤140737488355328) (hbase:base≤w.heap.size) :
  ∃ v' w',(Builtin.append_ #[t,t] ty #[v,.slice (some a) m c]).run P w=.ok v' w'∧w'.ownsRow base e size v' (n+m) (xs++news)∧w.grownBy w' v.ownBlock ∧
   ∀ g,v'.ownBlock=some g→v.ownBlock=some g∨g=w.heap.size:=by
 obtain ⟨v',w',hr,h2,h3,h4⟩:=run_append_own (P:=P) w base t ty e i z size bytes ht hi hz hsize hby hzs hsz v n xs hown a m c news hl hnews h1 h63 hbytes hbase
 refine ⟨v',w',hr,h2,h3,?_⟩
 subst hsize
 subst hby
 have hsmall:n+m≤9223372036854775807:=by simp only [maxLen] at h63;omega
 rcases hown.2 with ⟨rfl,rfl⟩ | ⟨g,cap,cur,rfl,hbg,hg,hnc,hcm,hcs,htake⟩
 ·have hx:xs=[]:=List.eq_nil_of_length_eq_zero (by simpa using hown.1)
  subst hx
  by_cases hm:m=0
  ·rw [h4.mpr ⟨rfl,hm⟩]
   intro g hg
   simp [Value.ownBlock] at hg
  ·have hr2:=run_append_nil (P:=P) w t ty e i z ht hi hz a m c news hl hnews (by omega) (by omega) (by have hb:=hbytes;simp only [Nat.zero_add] at hb;omega)
   have:=hr.symm.trans hr2
   injection this with e1 e2
   rw [e1]
   intro g hg
   simp [Value.ownBlock] at hg
   exact Or.inr hg.symm
 ·by_cases hroom:n+m≤cap
  ·have hfit:n * i.size+news.length≤cur.size:=by rw [hl,hcs,← Nat.add_mul];exact Nat.mul_le_mul_right _ hroom
   have hr2:=run_append_room (P:=P) w t ty e i ht hi g n cap cur hg a m c news hl hnews h1 hroom hfit
   have:=hr.symm.trans hr2
   injection this with e1 e2
   rw [e1]
   intro g' hg'
   exact Or.inl hg'
  ·have holds:∀ j u,xs[j]?=some u→w.cell? ((⟨g,0,none⟩:Addr).add j)=some u:=hown.cells (g:=g) rfl
   have hr2:=run_append_grow (P:=P) w t ty e i z ht hi hz ⟨g,0,none⟩ n cap xs hown.1 holds a m c news hl hnews (by omega) (by omega) (growslice_fits (by omega) hbytes)
   have:=hr.symm.trans hr2
   injection this with e1 e2
   rw [e1]
   intro g' hg'
   simp [Value.ownBlock] at hg'
   exact Or.inr hg'.symm
theorem wpList_append_at (w:World) {ops:Array Oper} {rest:List Oper} {o:Oper} {a:Act} {Q:Exit→Act→World→Prop} (hgd:o.guard=none) (s x:Operand) (t:TypeId)
  (ho:o.op=.call { callee:=.builtin .append,args:=#[s,x],argTypes:=#[t,t] })
  (base:Nat) (e:TypeId) (i:TypeInfo) (z:Value) (size bytes:Nat) (ht:P.underlying t=some (.slice e)) (hi:P.info? e=some i) (hz:i.zero=some z)
  (hsize:i.size=size) (hby:i.bytes=bytes) (hzs:z.cells.size=size) (hsz:0 < size)
  (v:Value) (n:Nat) (xs:List Value) (hs:a.eval s=v) (hown:w.ownsRow base e size v n xs)
  (ad:Addr) (m c:Nat) (news:List Value) (hx:a.eval x=.slice (some ad) m c) (hl:news.length=m * size) (hnews:∀ j u,news[j]?=some u→w.cell? (ad.add j)=some u) (h1:∀ u∈news,u.oneCell'=true)
  (h63:n+m≤maxLen) (hbytes:(n+m) * bytes≤140737488355328) (hbase:base≤w.heap.size)
  (h:∀ v' w',w'.ownsRow base e size v' (n+m) (xs++news)→w.grownBy w' v.ownBlock→(∀ g,v'.ownBlock=some g→v.ownBlock=some g∨g=w.heap.size)→wpList P ops Q rest (a.put o.dst v') w'):wpList P ops Q (o :: rest) a w:=by
 refine wpList_plain hgd fun K' hK'=>?_
 obtain ⟨v',w',hr,h2,h3,h4⟩:=run_append_at (P:=P) w base t o.type e i z size bytes ht hi hz hsize hby hzs hsz v n xs hown ad m c news hl hnews h1 h63 hbytes hbase
 unfold Oper.wp execOp
 simp only [ho,resolve,invoke,builtin,Sem.run_bind,Sem.run_pure,Result.andThen_ok,List.map_toArray,List.map_cons,List.map_nil,hs,hx,hr]
 exact hK' _ _ (h v' w' h2 h3 h4)
end
theorem own_kept {w w':World} {B:Nat} {e:TypeId} {sz n:Nat} {v:Value} {xs:List Value} (h:w.ownsRow B e sz v n xs) (hk:∀ g,v.ownBlock=some g→w'.heap[g]?=w.heap[g]?):w'.ownsRow B e sz v n xs:=by
 refine ⟨h.1,?_⟩
 rcases h.2 with hn | ⟨g,cap,cur,rfl,hb,hgg,rest⟩
 ·exact .inl hn
 ·exact .inr ⟨g,cap,cur,rfl,hb,(hk g rfl).trans hgg,rest⟩
end Go.Proofs.YtdgihicpjonjgaaGreatDoor
