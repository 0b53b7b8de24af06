import Derived.Test.YtdgihicpjonjgaaGreatDoorZRdTwo
import Derived.Test.YtdgihicpjonjgaaGreatDoorZTabsN
import Derived.Deep.RegionWith
namespace Go.Proofs.YtdgihicpjonjgaaGreatDoor
open Go.RowKit
section
variable {L:List ByteArray} {i:Int} (r:Nat→Bool→Int→Kn→Ot) (K:Kn)
end
theorem alone_one {L:List ByteArray} {i:Int} (h:ItV L i) (ho:isW (sgAt L i) [40]=false):oneB (sgAt L i)=true:=by
 rcases h with h | h
 ·rw [fm_sum] at h
  unfold sumS at h
  rw [ho] at h
  by_cases h1:oneB (sgAt L i)=true
  ·exact h1
  ·rw [if_neg (by decide),if_neg h1] at h
   exact absurd rfl h
 ·have:=deed_open h
  rw [ho] at this
  cases this
theorem vi_not_nm {s:ByteArray} (h:viB s=true):nmB s=false:=by
 have key:nameB s=true→resB s=true:=fun hn=>by
  have h2:=kind_name ((nameB_iff s).mp hn)
  unfold viB at h
  rw [Bool.or_eq_true,Bool.or_eq_true] at h
  rcases h with (h | h) | h
  ·have:=kind_numer ((numerB_iff s).mp h)
   omega
  ·have:=kind_quot ((quotB_iff s).mp h)
   omega
  ·exact res_none h
 unfold nmB
 cases hn:nameB s
 ·rfl
 ·rw [key hn]
  rfl
end Go.Proofs.YtdgihicpjonjgaaGreatDoor
namespace Go.Proofs.YtdgihicpjonjgaaGreatDoor
open Go.RowKit
end Go.Proofs.YtdgihicpjonjgaaGreatDoor
namespace Go.Proofs.YtdgihicpjonjgaaGreatDoor
open Go.RowKit
end Go.Proofs.YtdgihicpjonjgaaGreatDoor
namespace Go.Proofs.YtdgihicpjonjgaaGreatDoor
open Go.RowKit
end Go.Proofs.YtdgihicpjonjgaaGreatDoor
namespace Go.Proofs.YtdgihicpjonjgaaGreatDoor
open Go.RowKit
end Go.Proofs.YtdgihicpjonjgaaGreatDoor
