import Derived.Test.YtdgihicpjonjgaaGreatDoorZBase
import Derived.Test.YtdgihicpjonjgaaGreatDoorZShelf
import Derived.Lib.AppendIntMem
namespace Go.Proofs.YtdgihicpjonjgaaGreatDoor
open Go.RowKit
def Tab (w : World) : Prop := Lib.TabIs Tryz.prog w "internal/strconv.uint64pow10" .u64 Lib.pow10Tab
theorem tab_call {w w':World} (h:Tab w) (hb:Below w.heap.size w w'):Tab w':=Lib.tabBelow_of_tabIs h w' hb
theorem below_grow (w:World) (k:Nat) (os:Array Obj):Below w.heap.size w (Sort.grow (w.drewN k) os) :=
 ⟨rfl,rfl,rfl,by simp,fun j hj=>Sort.heap_grow_old (w.drewN k) os hj⟩
theorem format_any (n:Int) (w:World) (h0:-999999999≤n) (h1:n≤999999999) (ht:Tab w) :
  Calls Tryz.prog 158 #[.int .i64 n,.int .i64 10] w fun e w'=>e=.returned (.string ⟨(Lib.itoa n).toArray⟩)∧Below w.heap.size w w':=by
 refine (Tryz.strconv_FormatInt_10 n (by omega) (by omega) w ht).mono ?_
 rintro e w' ⟨rfl,k,os,rfl⟩
 exact ⟨rfl,below_grow w k os⟩
end Go.Proofs.YtdgihicpjonjgaaGreatDoor
