import Derived.Test.YtdgihicpjonjgaaGreatDoorZBase
import Derived.Test.YtdgihicpjonjgaaGreatDoorZLeafS
import Derived.Deep.RegionHeld3
namespace Go.Proofs.YtdgihicpjonjgaaGreatDoor
open Go.RowKit
theorem asNoneOfNone (v:Value) (w:World):(Instr.typeAssert (.iface 163 v) 160 163 true).run Tryz.prog w=.ok (.tuple #[v,.bool true]) w:=by kernel_rfl
theorem asNoneOfNumber (v:Value) (w:World):(Instr.typeAssert (.iface 163 v) 160 140 true).run Tryz.prog w=.ok (.tuple #[.agg #[.int .i64 0],.bool false]) w:=by kernel_rfl
theorem asNoneOfText (v:Value) (w:World):(Instr.typeAssert (.iface 163 v) 160 143 true).run Tryz.prog w=.ok (.tuple #[.agg #[.string ⟨#[]⟩],.bool false]) w:=by kernel_rfl
theorem asNoneOfPlace (v:Value) (w:World):(Instr.typeAssert (.iface 163 v) 160 181 true).run Tryz.prog w=.ok (.tuple #[.agg #[.int .i64 0,.int .i64 0],.bool false]) w:=by kernel_rfl
theorem asNumberOfNone (v:Value) (w:World):(Instr.typeAssert (.iface 140 v) 160 163 true).run Tryz.prog w=.ok (.tuple #[.agg #[],.bool false]) w:=by kernel_rfl
theorem asNumberOfNumber (v:Value) (w:World):(Instr.typeAssert (.iface 140 v) 160 140 true).run Tryz.prog w=.ok (.tuple #[v,.bool true]) w:=by kernel_rfl
theorem asNumberOfText (v:Value) (w:World):(Instr.typeAssert (.iface 140 v) 160 143 true).run Tryz.prog w=.ok (.tuple #[.agg #[.string ⟨#[]⟩],.bool false]) w:=by kernel_rfl
theorem asNumberOfPlace (v:Value) (w:World):(Instr.typeAssert (.iface 140 v) 160 181 true).run Tryz.prog w=.ok (.tuple #[.agg #[.int .i64 0,.int .i64 0],.bool false]) w:=by kernel_rfl
theorem asTextOfNone (v:Value) (w:World):(Instr.typeAssert (.iface 143 v) 160 163 true).run Tryz.prog w=.ok (.tuple #[.agg #[],.bool false]) w:=by kernel_rfl
theorem asTextOfNumber (v:Value) (w:World):(Instr.typeAssert (.iface 143 v) 160 140 true).run Tryz.prog w=.ok (.tuple #[.agg #[.int .i64 0],.bool false]) w:=by kernel_rfl
theorem asTextOfText (v:Value) (w:World):(Instr.typeAssert (.iface 143 v) 160 143 true).run Tryz.prog w=.ok (.tuple #[v,.bool true]) w:=by kernel_rfl
theorem asTextOfPlace (v:Value) (w:World):(Instr.typeAssert (.iface 143 v) 160 181 true).run Tryz.prog w=.ok (.tuple #[.agg #[.int .i64 0,.int .i64 0],.bool false]) w:=by kernel_rfl
theorem asPlaceOfNone (v:Value) (w:World):(Instr.typeAssert (.iface 181 v) 160 163 true).run Tryz.prog w=.ok (.tuple #[.agg #[],.bool false]) w:=by kernel_rfl
theorem asPlaceOfNumber (v:Value) (w:World):(Instr.typeAssert (.iface 181 v) 160 140 true).run Tryz.prog w=.ok (.tuple #[.agg #[.int .i64 0],.bool false]) w:=by kernel_rfl
theorem asPlaceOfText (v:Value) (w:World):(Instr.typeAssert (.iface 181 v) 160 143 true).run Tryz.prog w=.ok (.tuple #[.agg #[.string ⟨#[]⟩],.bool false]) w:=by kernel_rfl
theorem asPlaceOfPlace (v:Value) (w:World):(Instr.typeAssert (.iface 181 v) 160 181 true).run Tryz.prog w=.ok (.tuple #[v,.bool true]) w:=by kernel_rfl
theorem asWrongOfNone (v:Value) (w:World):(Instr.typeAssert (.iface 174 v) 160 163 true).run Tryz.prog w=.ok (.tuple #[.agg #[],.bool false]) w:=by kernel_rfl
theorem asWrongOfNumber (v:Value) (w:World):(Instr.typeAssert (.iface 174 v) 160 140 true).run Tryz.prog w=.ok (.tuple #[.agg #[.int .i64 0],.bool false]) w:=by kernel_rfl
theorem asWrongOfText (v:Value) (w:World):(Instr.typeAssert (.iface 174 v) 160 143 true).run Tryz.prog w=.ok (.tuple #[.agg #[.string ⟨#[]⟩],.bool false]) w:=by kernel_rfl
theorem asWrongOfPlace (v:Value) (w:World):(Instr.typeAssert (.iface 174 v) 160 181 true).run Tryz.prog w=.ok (.tuple #[.agg #[.int .i64 0,.int .i64 0],.bool false]) w:=by kernel_rfl
attribute [local go_sem] asNoneOfNone asNoneOfNumber asNoneOfText asNoneOfPlace asNumberOfNone asNumberOfNumber asNumberOfText asNumberOfPlace asTextOfNone asTextOfNumber asTextOfText asTextOfPlace asPlaceOfNone asPlaceOfNumber asPlaceOfText asPlaceOfPlace asWrongOfNone asWrongOfNumber asWrongOfText asWrongOfPlace
theorem shapeOk_none (w:World) :
  Calls Tryz.prog 165 #[.iface 163 (.agg #[])] w fun e w'=>e=.returned (.bool true)∧Below w.heap.size w w':=by
 go_enter Tryz.func165,Tryz.ntmps165
 go_wp2
 go_ret
 exact ⟨rfl,by go_grown⟩
theorem shapeOk_number (n:Int) (w:World) :
  Calls Tryz.prog 165 #[.iface 140 (.agg #[.int .i64 n])] w fun e w'=>e=.returned (.bool (numB n))∧Below w.heap.size w w':=by
 go_enter Tryz.func165,Tryz.ntmps165
 go_wp2_with fail
 refine (numberOk_any n _).mono ?_
 rintro e w' ⟨rfl,rfl⟩
 go_wp2
 go_ret
 exact ⟨rfl,by go_grown⟩
theorem shapeOk_text (s:ByteArray) (w:World) (hs:s.size≤maxLen) :
  Calls Tryz.prog 165 #[.iface 143 (.agg #[.string s])] w fun e w'=>e=.returned (.bool (textB s))∧Below w.heap.size w w':=by
 go_enter Tryz.func165,Tryz.ntmps165
 go_wp2_with fail
 refine (textOk_any s _ hs).mono ?_
 rintro e w' ⟨rfl,rfl⟩
 go_wp2
 go_ret
 exact ⟨rfl,by go_grown⟩
theorem shapeOk_place (k n:Int) (w:World) :
  Calls Tryz.prog 165 #[.iface 181 (.agg #[.int .i64 k,.int .i64 n])] w fun e w'=>e=.returned (.bool (decide (0≤n)))∧Below w.heap.size w w':=by
 go_enter Tryz.func165,Tryz.ntmps165
 go_wp2
 go_ret
 exact ⟨rfl,by go_grown⟩
theorem shapeOk_wrong (w:World) :
  Calls Tryz.prog 165 #[.iface 174 (.agg #[])] w fun e w'=>e=.returned (.bool false)∧Below w.heap.size w w':=by
 go_enter Tryz.func165,Tryz.ntmps165
 go_wp2
 go_ret
 exact ⟨rfl,by go_grown⟩
def shapeV (k n:Int) (s:ByteArray):Value:=if okV k n s then kindV k n s else .iface 174 (.agg #[])
theorem valueNone_any (w:World) :
  Calls Tryz.prog 200 #[.agg #[]] w fun e w' =>
   e=.returned (.agg #[.int .i64 0,.int .i64 0,.string ⟨#[]⟩])∧Below w.heap.size w w':=by
 go_enter Tryz.func200,Tryz.ntmps200
 go_wp2
 go_returns
 exact ⟨rfl,by go_grown⟩
theorem valueText_any (s:ByteArray) (w:World) :
  Calls Tryz.prog 135 #[.agg #[.string s]] w fun e w' =>
   e=.returned (.agg #[.int .i64 2,.int .i64 0,.string s])∧Below w.heap.size w w':=by
 go_enter Tryz.func135,Tryz.ntmps135
 go_wp2
 go_returns
 exact ⟨rfl,by go_grown⟩
theorem valuePlace_any (k n:Int) (w:World) :
  Calls Tryz.prog 204 #[.agg #[.int .i64 k,.int .i64 n]] w fun e w' =>
   e=.returned (.agg #[.int .i64 k,.int .i64 n,.string ⟨#[]⟩])∧Below w.heap.size w w':=by
 go_enter Tryz.func204,Tryz.ntmps204
 go_wp2
 go_returns
 exact ⟨rfl,by go_grown⟩
set_option maxHeartbeats 400000 in
theorem shapeOf_number (n:Int) (s:ByteArray) (w:World) :
  Calls Tryz.prog 157 #[.agg #[.int .i64 1,.int .i64 n,.string s]] w fun e w' =>
   e=.returned (shapeV 1 n s)∧Below w.heap.size w w':=by
 cases hn:numB n
 ·have HS:Hid (shapeV 1 n s=.iface 174 (.agg #[])):=by simp [Hid,shapeV,okV,emB,hn]
  have HN:Hid (numB n=_):=hn
  clear hn
  go_enter Tryz.func157,Tryz.ntmps157
  go_wp2_with fail
  refine (shapeByKind_any 1 n s _).mono ?_
  rintro e w' ⟨rfl,hb⟩
  rw [show kindV 1 n s=.iface 140 (.agg #[.int .i64 n]) from rfl]
  go_wp2_with fail
  first | go_region_with (go_at_call 165;refine (shapeOk_number n _).mono ?_;rintro e w2 ⟨rfl,hb2⟩;rw [HN.out]) | fail
  all_goals
   go_wp2
   go_ret
   exact ⟨by rw [HS.out];rfl,(by repeat' (first | (with_reducible exact Below.refl _ _) | (with_reducible refine Below.drew ?_) | (with_reducible refine balloc ?_ _) | (with_reducible refine bset ?_ _ ?_) | (with_reducible refine bstep ?_ (by with_reducible assumption)) | go_size))⟩
 rcases em_cases s with rfl | ⟨he,hem⟩
 ·have HS:Hid (shapeV 1 n ⟨#[]⟩=.iface 140 (.agg #[.int .i64 n])):=by simp [Hid,shapeV,okV,emB,kindV,hn]
  have HN:Hid (numB n=_):=hn
  clear hn
  go_enter Tryz.func157,Tryz.ntmps157
  go_wp2_with fail
  refine (shapeByKind_any 1 n ⟨#[]⟩ _).mono ?_
  rintro e w' ⟨rfl,hb⟩
  rw [show kindV 1 n ⟨#[]⟩=.iface 140 (.agg #[.int .i64 n]) from rfl]
  go_wp2_with fail
  obtain ⟨o0,o1,o2,oz⟩:=bbox0 w (.int .i64 1) (.int .i64 n) (.string ⟨#[]⟩) 116
  obtain ⟨p0,p1,p2,pz⟩:=bbox hb oz o0 o1 o2
  clear o0 o1 o2 oz
  first | go_region_with (first | (go_at_call 165;refine (shapeOk_number n _).mono ?_;rintro e w2 ⟨rfl,hb2⟩;rw [HN.out];obtain ⟨q0,q1,q2,qz⟩:=bbox hb2 pz p0 p1 p2) | (go_at_call 134;refine (value_any n _).mono ?_;rintro e w3 ⟨rfl,hb3⟩;obtain ⟨r0,r1,r2,rz⟩:=bbox hb3 qz q0 q1 q2)) | fail
  all_goals
   go_wp2
   go_ret
   exact ⟨by rw [HS.out];rfl,(by repeat' (first | (with_reducible exact Below.refl _ _) | (with_reducible refine Below.drew ?_) | (with_reducible refine balloc ?_ _) | (with_reducible refine bset ?_ _ ?_) | (with_reducible refine bstep ?_ (by with_reducible assumption)) | go_size))⟩
 ·have HS:Hid (shapeV 1 n s=.iface 174 (.agg #[])):=by simp [Hid,shapeV,okV,emB,hn,he]
  have HN:Hid (numB n=_):=hn
  clear hn
  clear hem
  go_enter Tryz.func157,Tryz.ntmps157
  go_wp2_with fail
  refine (shapeByKind_any 1 n s _).mono ?_
  rintro e w' ⟨rfl,hb⟩
  rw [show kindV 1 n s=.iface 140 (.agg #[.int .i64 n]) from rfl]
  go_wp2_with fail
  obtain ⟨o0,o1,o2,oz⟩:=bbox0 w (.int .i64 1) (.int .i64 n) (.string s) 116
  obtain ⟨p0,p1,p2,pz⟩:=bbox hb oz o0 o1 o2
  clear o0 o1 o2 oz
  first | go_region_with (first | (go_at_call 165;refine (shapeOk_number n _).mono ?_;rintro e w2 ⟨rfl,hb2⟩;rw [HN.out];obtain ⟨q0,q1,q2,qz⟩:=bbox hb2 pz p0 p1 p2) | (go_at_call 134;refine (value_any n _).mono ?_;rintro e w3 ⟨rfl,hb3⟩;obtain ⟨r0,r1,r2,rz⟩:=bbox hb3 qz q0 q1 q2)) | fail
  all_goals
   go_wp2
   go_ret
   exact ⟨by rw [HS.out];rfl,(by repeat' (first | (with_reducible exact Below.refl _ _) | (with_reducible refine Below.drew ?_) | (with_reducible refine balloc ?_ _) | (with_reducible refine bset ?_ _ ?_) | (with_reducible refine bstep ?_ (by with_reducible assumption)) | go_size))⟩
set_option maxHeartbeats 400000 in
theorem shapeOf_none (n:Int) (s:ByteArray) (w:World) :
  Calls Tryz.prog 157 #[.agg #[.int .i64 0,.int .i64 n,.string s]] w fun e w' =>
   e=.returned (shapeV 0 n s)∧Below w.heap.size w w':=by
 rcases em_cases s with rfl | ⟨he,hem⟩
 ·by_cases hn:n=0
  ·have HS:Hid (shapeV 0 n ⟨#[]⟩=.iface 163 (.agg #[])):=by simp [Hid,shapeV,okV,emB,kindV,hn]
   subst hn
   go_enter Tryz.func157,Tryz.ntmps157
   go_wp2_with fail
   refine (shapeByKind_any 0 0 ⟨#[]⟩ _).mono ?_
   rintro e w' ⟨rfl,hb⟩
   rw [show kindV 0 0 ⟨#[]⟩=.iface 163 (.agg #[]) from rfl]
   go_wp2_with fail
   obtain ⟨o0,o1,o2,oz⟩:=bbox0 w (.int .i64 0) (.int .i64 0) (.string ⟨#[]⟩) 116
   obtain ⟨p0,p1,p2,pz⟩:=bbox hb oz o0 o1 o2
   clear o0 o1 o2 oz
   first | go_region_with (first | (go_at_call 165;refine (shapeOk_none _).mono ?_;rintro e w2 ⟨rfl,hb2⟩;obtain ⟨q0,q1,q2,qz⟩:=bbox hb2 pz p0 p1 p2) | (go_at_call 200;refine (valueNone_any _).mono ?_;rintro e w3 ⟨rfl,hb3⟩;obtain ⟨r0,r1,r2,rz⟩:=bbox hb3 qz q0 q1 q2)) | fail
   all_goals
    go_wp2
    go_ret
    exact ⟨by rw [HS.out];rfl,(by repeat' (first | (with_reducible exact Below.refl _ _) | (with_reducible refine Below.drew ?_) | (with_reducible refine balloc ?_ _) | (with_reducible refine bset ?_ _ ?_) | (with_reducible refine bstep ?_ (by with_reducible assumption)) | go_size))⟩
  ·have HS:Hid (shapeV 0 n ⟨#[]⟩=.iface 174 (.agg #[])):=by simp [Hid,shapeV,okV,emB,hn]
   go_enter Tryz.func157,Tryz.ntmps157
   go_wp2_with fail
   refine (shapeByKind_any 0 n ⟨#[]⟩ _).mono ?_
   rintro e w' ⟨rfl,hb⟩
   rw [show kindV 0 n ⟨#[]⟩=.iface 163 (.agg #[]) from rfl]
   go_wp2_with fail
   obtain ⟨o0,o1,o2,oz⟩:=bbox0 w (.int .i64 0) (.int .i64 n) (.string ⟨#[]⟩) 116
   obtain ⟨p0,p1,p2,pz⟩:=bbox hb oz o0 o1 o2
   clear o0 o1 o2 oz
   first | go_region_with (first | (go_at_call 165;refine (shapeOk_none _).mono ?_;rintro e w2 ⟨rfl,hb2⟩;obtain ⟨q0,q1,q2,qz⟩:=bbox hb2 pz p0 p1 p2) | (go_at_call 200;refine (valueNone_any _).mono ?_;rintro e w3 ⟨rfl,hb3⟩;obtain ⟨r0,r1,r2,rz⟩:=bbox hb3 qz q0 q1 q2)) | fail
   all_goals
    go_wp2
    go_ret
    exact ⟨by rw [HS.out];rfl,(by repeat' (first | (with_reducible exact Below.refl _ _) | (with_reducible refine Below.drew ?_) | (with_reducible refine balloc ?_ _) | (with_reducible refine bset ?_ _ ?_) | (with_reducible refine bstep ?_ (by with_reducible assumption)) | go_size))⟩
 ·have HS:Hid (shapeV 0 n s=.iface 174 (.agg #[])):=by simp [Hid,shapeV,okV,emB,he]
  clear hem
  go_enter Tryz.func157,Tryz.ntmps157
  go_wp2_with fail
  refine (shapeByKind_any 0 n s _).mono ?_
  rintro e w' ⟨rfl,hb⟩
  rw [show kindV 0 n s=.iface 163 (.agg #[]) from rfl]
  go_wp2_with fail
  obtain ⟨o0,o1,o2,oz⟩:=bbox0 w (.int .i64 0) (.int .i64 n) (.string s) 116
  obtain ⟨p0,p1,p2,pz⟩:=bbox hb oz o0 o1 o2
  clear o0 o1 o2 oz
  first | go_region_with (first | (go_at_call 165;refine (shapeOk_none _).mono ?_;rintro e w2 ⟨rfl,hb2⟩;obtain ⟨q0,q1,q2,qz⟩:=bbox hb2 pz p0 p1 p2) | (go_at_call 200;refine (valueNone_any _).mono ?_;rintro e w3 ⟨rfl,hb3⟩;obtain ⟨r0,r1,r2,rz⟩:=bbox hb3 qz q0 q1 q2)) | fail
  all_goals
   go_wp2
   go_ret
   exact ⟨by rw [HS.out];rfl,(by repeat' (first | (with_reducible exact Below.refl _ _) | (with_reducible refine Below.drew ?_) | (with_reducible refine balloc ?_ _) | (with_reducible refine bset ?_ _ ?_) | (with_reducible refine bstep ?_ (by with_reducible assumption)) | go_size))⟩
set_option maxHeartbeats 400000 in
theorem shapeOf_text (n:Int) (s:ByteArray) (w:World) (hs:s.size≤maxLen) :
  Calls Tryz.prog 157 #[.agg #[.int .i64 2,.int .i64 n,.string s]] w fun e w' =>
   e=.returned (shapeV 2 n s)∧Below w.heap.size w w':=by
 cases hn:textB s
 ·have HS:Hid (shapeV 2 n s=.iface 174 (.agg #[])):=by simp [Hid,shapeV,okV,hn]
  have HN:Hid (textB s=_):=hn
  clear hn
  go_enter Tryz.func157,Tryz.ntmps157
  go_wp2_with fail
  refine (shapeByKind_any 2 n s _).mono ?_
  rintro e w' ⟨rfl,hb⟩
  rw [show kindV 2 n s=.iface 143 (.agg #[.string s]) from rfl]
  go_wp2_with fail
  first | go_region_with (go_at_call 165;refine (shapeOk_text s _ hs).mono ?_;rintro e w2 ⟨rfl,hb2⟩;rw [HN.out]) | fail
  all_goals
   go_wp2
   go_ret
   exact ⟨by rw [HS.out];rfl,(by repeat' (first | (with_reducible exact Below.refl _ _) | (with_reducible refine Below.drew ?_) | (with_reducible refine balloc ?_ _) | (with_reducible refine bset ?_ _ ?_) | (with_reducible refine bstep ?_ (by with_reducible assumption)) | go_size))⟩
 by_cases h0:n=0
 ·have HS:Hid (shapeV 2 n s=.iface 143 (.agg #[.string s])):=by simp [Hid,shapeV,okV,kindV,hn,h0]
  have HN:Hid (textB s=_):=hn
  clear hn
  subst h0
  go_enter Tryz.func157,Tryz.ntmps157
  go_wp2_with fail
  refine (shapeByKind_any 2 0 s _).mono ?_
  rintro e w' ⟨rfl,hb⟩
  rw [show kindV 2 0 s=.iface 143 (.agg #[.string s]) from rfl]
  go_wp2_with fail
  obtain ⟨o0,o1,o2,oz⟩:=bbox0 w (.int .i64 2) (.int .i64 0) (.string s) 116
  obtain ⟨p0,p1,p2,pz⟩:=bbox hb oz o0 o1 o2
  clear o0 o1 o2 oz
  first | go_region_with (first | (go_at_call 165;refine (shapeOk_text s _ hs).mono ?_;rintro e w2 ⟨rfl,hb2⟩;rw [HN.out];obtain ⟨q0,q1,q2,qz⟩:=bbox hb2 pz p0 p1 p2) | (go_at_call 135;refine (valueText_any s _).mono ?_;rintro e w3 ⟨rfl,hb3⟩;obtain ⟨r0,r1,r2,rz⟩:=bbox hb3 qz q0 q1 q2)) | fail
  all_goals
   go_wp2
   go_ret
   exact ⟨by rw [HS.out];rfl,(by repeat' (first | (with_reducible exact Below.refl _ _) | (with_reducible refine Below.drew ?_) | (with_reducible refine balloc ?_ _) | (with_reducible refine bset ?_ _ ?_) | (with_reducible refine bstep ?_ (by with_reducible assumption)) | go_size))⟩
 ·have HS:Hid (shapeV 2 n s=.iface 174 (.agg #[])):=by simp [Hid,shapeV,okV,hn,h0]
  have HN:Hid (textB s=_):=hn
  clear hn
  go_enter Tryz.func157,Tryz.ntmps157
  go_wp2_with fail
  refine (shapeByKind_any 2 n s _).mono ?_
  rintro e w' ⟨rfl,hb⟩
  rw [show kindV 2 n s=.iface 143 (.agg #[.string s]) from rfl]
  go_wp2_with fail
  obtain ⟨o0,o1,o2,oz⟩:=bbox0 w (.int .i64 2) (.int .i64 n) (.string s) 116
  obtain ⟨p0,p1,p2,pz⟩:=bbox hb oz o0 o1 o2
  clear o0 o1 o2 oz
  first | go_region_with (first | (go_at_call 165;refine (shapeOk_text s _ hs).mono ?_;rintro e w2 ⟨rfl,hb2⟩;rw [HN.out];obtain ⟨q0,q1,q2,qz⟩:=bbox hb2 pz p0 p1 p2) | (go_at_call 135;refine (valueText_any s _).mono ?_;rintro e w3 ⟨rfl,hb3⟩;obtain ⟨r0,r1,r2,rz⟩:=bbox hb3 qz q0 q1 q2)) | fail
  all_goals
   go_wp2
   go_ret
   exact ⟨by rw [HS.out];rfl,(by repeat' (first | (with_reducible exact Below.refl _ _) | (with_reducible refine Below.drew ?_) | (with_reducible refine balloc ?_ _) | (with_reducible refine bset ?_ _ ?_) | (with_reducible refine bstep ?_ (by with_reducible assumption)) | go_size))⟩
set_option maxHeartbeats 400000 in
theorem shapeOf_place (k n:Int) (s:ByteArray) (w:World) (h3:3≤k) (h5:k≤5) :
  Calls Tryz.prog 157 #[.agg #[.int .i64 k,.int .i64 n,.string s]] w fun e w' =>
   e=.returned (shapeV k n s)∧Below w.heap.size w w':=by
 have hk:∀ S,kindV k n S=.iface 181 (.agg #[.int .i64 k,.int .i64 n]):=by
  intro S
  unfold kindV
  rw [if_neg (by omega),if_neg (by omega),if_neg (by omega),if_pos ⟨h3,h5⟩]
 have ho:∀ S,okV k n S=(decide (0≤n) && emB S):=by
  intro S
  unfold okV
  rw [if_neg (by omega),if_neg (by omega),if_neg (by omega),if_pos ⟨h3,h5⟩]
 have HK:Hid (∀ S,kindV k n S=.iface 181 (.agg #[.int .i64 k,.int .i64 n])):=hk
 have HO:Hid (∀ S,okV k n S=(decide (0≤n) && emB S)):=ho
 clear hk ho
 by_cases h0:0≤n
 ·have hd:decide (0≤n)=true:=decide_eq_true h0
  have HD:Hid (decide (0≤n)=true):=hd
  clear hd
  rcases em_cases s with rfl | ⟨he,hem⟩
  ·have HS:Hid (shapeV k n ⟨#[]⟩=.iface 181 (.agg #[.int .i64 k,.int .i64 n])):=by
    unfold Hid shapeV;rw [HO.out ⟨#[]⟩,HK.out ⟨#[]⟩];simp [emB,h0]
   go_enter Tryz.func157,Tryz.ntmps157
   go_wp2_with fail
   refine (shapeByKind_any k n ⟨#[]⟩ _).mono ?_
   rintro e w' ⟨rfl,hb⟩
   rw [HK.out ⟨#[]⟩]
   go_wp2_with fail
   obtain ⟨o0,o1,o2,oz⟩:=bbox0 w (.int .i64 k) (.int .i64 n) (.string ⟨#[]⟩) 116
   obtain ⟨p0,p1,p2,pz⟩:=bbox hb oz o0 o1 o2
   clear o0 o1 o2 oz
   first | go_region_with (first | (go_at_call 165;refine (shapeOk_place k n _).mono ?_;rintro e w2 ⟨rfl,hb2⟩;rw [HD.out];obtain ⟨q0,q1,q2,qz⟩:=bbox hb2 pz p0 p1 p2) | (go_at_call 204;refine (valuePlace_any k n _).mono ?_;rintro e w3 ⟨rfl,hb3⟩;obtain ⟨r0,r1,r2,rz⟩:=bbox hb3 qz q0 q1 q2)) | fail
   all_goals
    go_wp2
    go_ret
    exact ⟨by rw [HS.out];rfl,(by repeat' (first | (with_reducible exact Below.refl _ _) | (with_reducible refine Below.drew ?_) | (with_reducible refine balloc ?_ _) | (with_reducible refine bset ?_ _ ?_) | (with_reducible refine bstep ?_ (by with_reducible assumption)) | go_size))⟩
  ·have HS:Hid (shapeV k n s=.iface 174 (.agg #[])):=by
    unfold Hid shapeV;rw [HO.out s,HK.out s];simp [emB,he]
   clear hem
   go_enter Tryz.func157,Tryz.ntmps157
   go_wp2_with fail
   refine (shapeByKind_any k n s _).mono ?_
   rintro e w' ⟨rfl,hb⟩
   rw [HK.out s]
   go_wp2_with fail
   obtain ⟨o0,o1,o2,oz⟩:=bbox0 w (.int .i64 k) (.int .i64 n) (.string s) 116
   obtain ⟨p0,p1,p2,pz⟩:=bbox hb oz o0 o1 o2
   clear o0 o1 o2 oz
   first | go_region_with (first | (go_at_call 165;refine (shapeOk_place k n _).mono ?_;rintro e w2 ⟨rfl,hb2⟩;rw [HD.out];obtain ⟨q0,q1,q2,qz⟩:=bbox hb2 pz p0 p1 p2) | (go_at_call 204;refine (valuePlace_any k n _).mono ?_;rintro e w3 ⟨rfl,hb3⟩;obtain ⟨r0,r1,r2,rz⟩:=bbox hb3 qz q0 q1 q2)) | fail
   all_goals
    go_wp2
    go_ret
    exact ⟨by rw [HS.out];rfl,(by repeat' (first | (with_reducible exact Below.refl _ _) | (with_reducible refine Below.drew ?_) | (with_reducible refine balloc ?_ _) | (with_reducible refine bset ?_ _ ?_) | (with_reducible refine bstep ?_ (by with_reducible assumption)) | go_size))⟩
 ·have hd:decide (0≤n)=false:=decide_eq_false h0
  have HD:Hid (decide (0≤n)=false):=hd
  clear hd
  have HS:Hid (shapeV k n s=.iface 174 (.agg #[])):=by
   unfold Hid shapeV;rw [HO.out s,HK.out s];simp [emB,h0]
  go_enter Tryz.func157,Tryz.ntmps157
  go_wp2_with fail
  refine (shapeByKind_any k n s _).mono ?_
  rintro e w' ⟨rfl,hb⟩
  rw [HK.out s]
  go_wp2_with fail
  first | go_region_with (go_at_call 165;refine (shapeOk_place k n _).mono ?_;rintro e w2 ⟨rfl,hb2⟩;rw [HD.out]) | fail
  all_goals
   go_wp2
   go_ret
   exact ⟨by rw [HS.out];rfl,(by repeat' (first | (with_reducible exact Below.refl _ _) | (with_reducible refine Below.drew ?_) | (with_reducible refine balloc ?_ _) | (with_reducible refine bset ?_ _ ?_) | (with_reducible refine bstep ?_ (by with_reducible assumption)) | go_size))⟩
set_option maxHeartbeats 400000 in
theorem shapeOf_other (k n:Int) (s:ByteArray) (w:World) (h:k < 0∨5 < k) :
  Calls Tryz.prog 157 #[.agg #[.int .i64 k,.int .i64 n,.string s]] w fun e w' =>
   e=.returned (shapeV k n s)∧Below w.heap.size w w':=by
 have HK:Hid (kindV k n s=.iface 174 (.agg #[])):=by
  unfold Hid kindV
  rw [if_neg (by omega),if_neg (by omega),if_neg (by omega),if_neg (by omega)]
 have HO:Hid (okV k n s=false):=by
  unfold Hid okV
  rw [if_neg (by omega),if_neg (by omega),if_neg (by omega),if_neg (by omega)]
 clear h
 have HS:Hid (shapeV k n s=.iface 174 (.agg #[])):=by
  unfold Hid shapeV;rw [HO.out];simp
 go_enter Tryz.func157,Tryz.ntmps157
 go_wp2_with fail
 refine (shapeByKind_any k n s _).mono ?_
 rintro e w' ⟨rfl,hb⟩
 rw [HK.out]
 go_wp2_with fail
 first | go_region_with (go_at_call 165;refine (shapeOk_wrong _).mono ?_;rintro e w2 ⟨rfl,hb2⟩) | fail
 all_goals
  go_wp2
  go_ret
  exact ⟨by rw [HS.out];rfl,(by repeat' (first | (with_reducible exact Below.refl _ _) | (with_reducible refine Below.drew ?_) | (with_reducible refine balloc ?_ _) | (with_reducible refine bset ?_ _ ?_) | (with_reducible refine bstep ?_ (by with_reducible assumption)) | go_size))⟩
theorem shapeOf_any (k n:Int) (s:ByteArray) (w:World) (hs:s.size≤maxLen) :
  Calls Tryz.prog 157 #[.agg #[.int .i64 k,.int .i64 n,.string s]] w fun e w' =>
   e=.returned (shapeV k n s)∧Below w.heap.size w w':=by
 by_cases h0:k=0
 ·subst h0;exact shapeOf_none n s w
 by_cases h1:k=1
 ·subst h1;exact shapeOf_number n s w
 by_cases h2:k=2
 ·subst h2;exact shapeOf_text n s w hs
 by_cases h3:3≤k∧k≤5
 ·exact shapeOf_place k n s w h3.1 h3.2
 ·exact shapeOf_other k n s w (by omega)
end Go.Proofs.YtdgihicpjonjgaaGreatDoor
namespace Go.Proofs.YtdgihicpjonjgaaGreatDoor
open Go.RowKit
attribute [local go_sem] asNoneOfNumber asNumberOfNumber asTextOfNumber asPlaceOfNumber asWrongOfNumber
end Go.Proofs.YtdgihicpjonjgaaGreatDoor
