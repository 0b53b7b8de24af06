import Derived.Test.YtdgihicpjonjgaaGreatDoorRows
import Derived.Test.YtdgihicpjonjgaaGreatDoorZSignA
import Derived.WalkKit
import Derived.WalkSpells
import Derived.WalkLawsBesides
import Derived.Handy
import Derived.Below
namespace Go.Proofs.YtdgihicpjonjgaaGreatDoor
open Go.RowKit
def numB (n:Int):Bool:=decide (-999999999≤n) && decide (n≤999999999)
set_option maxHeartbeats 400000 in
theorem numberOk_any (n:Int) (w:World) :
  Calls Tryz.prog 172 #[.int .i64 n] w fun e w'=>e=.returned (.bool (numB n))∧w'=w:=by
 unfold numB
 by_cases h1:-999999999≤n <;> by_cases h2:n≤999999999
 all_goals
  go_enter Tryz.func172,Tryz.ntmps172
  go_wp2
  go_ret
  simp [h1,h2]
set_option maxHeartbeats 400000 in
theorem l1Value_any (n:Int) (w:World) :
  Calls Tryz.prog 127 #[.int .i64 n] w fun e w' =>
   e=.returned (.agg #[.int .i64 1,.int .i64 n,.string ⟨#[]⟩])∧Below w.heap.size w w':=by
 go_enter Tryz.func127,Tryz.ntmps127
 go_wp2
 go_returns
 exact ⟨rfl,by go_grown⟩
set_option maxHeartbeats 400000 in
theorem value_any (n:Int) (w:World) :
  Calls Tryz.prog 134 #[.agg #[.int .i64 n]] w fun e w' =>
   e=.returned (.agg #[.int .i64 1,.int .i64 n,.string ⟨#[]⟩])∧Below w.heap.size w w':=by
 go_enter Tryz.func134,Tryz.ntmps134
 go_wp2
 go_returns
 exact ⟨rfl,by go_grown⟩
end Go.Proofs.YtdgihicpjonjgaaGreatDoor
namespace Go.Proofs.YtdgihicpjonjgaaGreatDoor
open Go.RowKit
def emB (s:ByteArray):Bool:=s.toList.isEmpty
def okV (k n:Int) (s:ByteArray):Bool :=
 if k=0 then decide (n=0) && emB s
 else if k=1 then numB n && emB s
 else if k=2 then textB s && decide (n=0)
 else if 3≤k∧k≤5 then decide (0≤n) && emB s
 else false
def kindV (k n:Int) (s:ByteArray):Value :=
 if k=0 then .iface 163 (.agg #[])
 else if k=1 then .iface 140 (.agg #[.int .i64 n])
 else if k=2 then .iface 143 (.agg #[.string s])
 else if 3≤k∧k≤5 then .iface 181 (.agg #[.int .i64 k,.int .i64 n])
 else .iface 174 (.agg #[])
theorem em_cases (s:ByteArray):s=⟨#[]⟩∨(s.toList.isEmpty=false∧emB s=false):=by
 by_cases h:s.toList.isEmpty=true
 ·left
  have h2:s.data.toList=[]:=by
   rw [ByteArray.toList_eq] at h;simpa using h
  cases s with | mk d=>cases d with | mk l=>simp at h2;subst h2;rfl
 ·right
  have h2:s.toList.isEmpty=false:=by simpa using h
  exact ⟨h2,h2⟩
set_option maxHeartbeats 400000 in
theorem shapeByKind_any (k n:Int) (s:ByteArray) (w:World) :
  Calls Tryz.prog 164 #[.agg #[.int .i64 k,.int .i64 n,.string s]] w fun e w' =>
   e=.returned (kindV k n s)∧Below w.heap.size w w':=by
 go_each [k=0,k=1,k=2,3≤k,k=3,k=4,k≤5]=>(
  go_enter Tryz.func164,Tryz.ntmps164
  go_wp2
  go_ret
  refine ⟨?_,by go_grown⟩
  simp [kindV, *]
  )
end Go.Proofs.YtdgihicpjonjgaaGreatDoor
