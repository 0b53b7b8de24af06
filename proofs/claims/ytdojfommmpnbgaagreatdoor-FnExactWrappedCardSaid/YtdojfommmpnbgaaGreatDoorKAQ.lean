import Derived.Test.YtdojfommmpnbgaaGreatDoorKAA
import Derived.Test.YtdojfommmpnbgaaGreatDoorKAP
import Derived.Lib.AppendIntMem
namespace Go.Proofs.YtdojfommmpnbgaaGreatDoor
open Go.RowKit Go.Proofs.Tryz
def dj(w : World) : Prop := Lib.TabIs prog w "internal/strconv.uint64pow10" .u64 Lib.pow10Tab
theorem ig{w w':World}(h:dj w)(hb:ai w w'):dj w':=Lib.tabBelow_of_tabIs h w' hb
theorem below_grow(w:World)(k:Nat)(os:Array Obj):ai w (Sort.grow (w.drewN k) os) :=
 ⟨rfl,rfl,rfl,by simp,fun j hj=>Sort.heap_grow_old (w.drewN k) os hj⟩
theorem zU(n:Int)(w:World)(h0:-999999999≤n)(h1:n≤999999999)(ht:dj w) :
  ah 72 #[.int .i64 n,.int .i64 10] w (aA (.string ⟨(Lib.itoa n).toArray⟩) w):=by
 refine(Tryz.strconv_FormatInt_10 n (by omega) (by omega) w ht).mono ?_;rintro e w' ⟨rfl,k,os,rfl⟩;exact⟨rfl,below_grow w k os⟩
end Go.Proofs.YtdojfommmpnbgaaGreatDoor
