import Derived.Test.YtdgihicpjonjgaaGreatDoorZLoops
import Derived.Test.YtdgihicpjonjgaaGreatDoorZPlain
import Derived.Test.YtdgihicpjonjgaaGreatDoorZFreeC
namespace Go.Proofs.YtdgihicpjonjgaaGreatDoor
open Go.RowKit
section
variable {a:Option Addr} {cap:Nat} {L:List ByteArray} {g fc:Nat} {F:Nat→Bool} {n:Nat}
set_option maxRecDepth 100000 in
set_option maxHeartbeats 4000000 in
theorem use_let (hU:UseC a cap L g fc F n) (hA:AnyC a cap L g fc F n) (hL:L.length≤2000) (x:Nat) (s:ByteArray) (fn:Bool) (w:World) (h:ArgT w a L) (hF:FlgA w g L.length F) (hv:ItV L (x:Int)) (hn:2 * farN L (x:Int)≤n+1) (ho:isW (sgAt L (x:Int)) [40]=true) (hw:isW (sgAt L ((x:Int)+1)) [108,101,116]=true) :
  Calls Tryz.prog 112 #[.slice a L.length cap,.slice (some ⟨g,0,none⟩) L.length fc,.int .i64 (x:Int),.string s,.bool fn] w fun e w'=>e=.returned (.bool (us L F n 1 ((x:Int)+3) s fn))∧Below w.heap.size w w':=by
 have hve:=hv.ends
 obtain ⟨q0,k,e,q1,q2,q3⟩:=hv.name_end ho _ hw (Or.inl rfl)
 have qe:=sgAt_shut q2
 have qc:=chainV_ends k _ q1 qe.1
 have hfar:=far_lt (L:=L) (i:=(x:Int)) (j:=(x:Int)+3) hve.1 (by omega) (by omega)
 obtain ⟨sb,off,rfl,s0,hsb⟩:=h.sg (i:=x) (by omega)
 have b40:((sgAt L (x:Int)).toList == [40])=true:=ho
 obtain ⟨sb1,off1,ha1,s1,_⟩:=h.sg (i:=x+1) (by omega)
 injection ha1 with ha1
 injection ha1 with e1 f1 _
 subst e1
 subst f1
 rw [show ((x+1:Nat):Int)=(x:Int)+1 by omega] at s1
 have hxu:x+1 < L.length:=by omega
 have b_fn:((sgAt L ((x:Int)+1)).toList == [102,110])=false:=isW_other hw (by decide)
 have b_do:((sgAt L ((x:Int)+1)).toList == [100,111])=false:=isW_other hw (by decide)
 have b_let:((sgAt L ((x:Int)+1)).toList == [108,101,116])=true:=hw
 have HC:Hid (∀ W:World,ArgT W (some ⟨sb,off,none⟩) L→FlgA W g L.length F→Calls Tryz.prog 62 #[.slice (some ⟨sb,off,none⟩) L.length cap,.slice (some ⟨g,0,none⟩) L.length fc,.int .i64 ((x:Int)+3),.string s,.bool fn] W fun e w'=>e=.returned (.bool (us L F n 1 ((x:Int)+3) s fn))∧Below W.heap.size W w'):=fun W hW hG=>hA _ e k s fn W hW hG q1 qe.1 (by omega) (endB_shut q2) (by omega)
 generalize us L F n 1 ((x:Int)+3) s fn=o1 at HC ⊢
 clear hU hA
 generalize sgAt L ((x:Int))=y0 at s0 b40
 generalize sgAt L ((x:Int)+1)=y1 at s1 b_fn b_do b_let
 go_enter Tryz.func112,Tryz.ntmps112
 go_wp2_with fail
 refine (HC.out _ h hF).mono ?_
 rintro r w8 ⟨rfl,hb8⟩
 go_wp2
 go_ret
 exact ⟨rfl,hb8⟩
set_option maxRecDepth 100000 in
set_option maxHeartbeats 4000000 in
theorem use_hget (hU:UseC a cap L g fc F n) (hA:AnyC a cap L g fc F n) (hL:L.length≤2000) (x:Nat) (s:ByteArray) (fn:Bool) (w:World) (h:ArgT w a L) (hF:FlgA w g L.length F) (hv:ItV L (x:Int)) (hn:2 * farN L (x:Int)≤n+1) (ho:isW (sgAt L (x:Int)) [40]=true) (hw:isW (sgAt L ((x:Int)+1)) [104,103,101,116]=true) :
  Calls Tryz.prog 112 #[.slice a L.length cap,.slice (some ⟨g,0,none⟩) L.length fc,.int .i64 (x:Int),.string s,.bool fn] w fun e w'=>e=.returned (.bool (us L F n 1 ((x:Int)+3) s fn))∧Below w.heap.size w w':=by
 have hve:=hv.ends
 obtain ⟨q0,_,k,e,q1,q2,q3⟩:=hv.name_sums ho _ hw (Or.inl rfl)
 have qe:=sgAt_shut q2
 have qc:=chainV_ends k _ q1 qe.1
 have hfar:=far_lt (L:=L) (i:=(x:Int)) (j:=(x:Int)+3) hve.1 (by omega) (by omega)
 obtain ⟨sb,off,rfl,s0,hsb⟩:=h.sg (i:=x) (by omega)
 have b40:((sgAt L (x:Int)).toList == [40])=true:=ho
 obtain ⟨sb1,off1,ha1,s1,_⟩:=h.sg (i:=x+1) (by omega)
 injection ha1 with ha1
 injection ha1 with e1 f1 _
 subst e1
 subst f1
 rw [show ((x+1:Nat):Int)=(x:Int)+1 by omega] at s1
 have hxu:x+1 < L.length:=by omega
 have b_fn:((sgAt L ((x:Int)+1)).toList == [102,110])=false:=isW_other hw (by decide)
 have b_do:((sgAt L ((x:Int)+1)).toList == [100,111])=false:=isW_other hw (by decide)
 have b_let:((sgAt L ((x:Int)+1)).toList == [108,101,116])=false:=isW_other hw (by decide)
 have b_hget:((sgAt L ((x:Int)+1)).toList == [104,103,101,116])=true:=hw
 have HC:Hid (∀ W:World,ArgT W (some ⟨sb,off,none⟩) L→FlgA W g L.length F→Calls Tryz.prog 62 #[.slice (some ⟨sb,off,none⟩) L.length cap,.slice (some ⟨g,0,none⟩) L.length fc,.int .i64 ((x:Int)+3),.string s,.bool fn] W fun e w'=>e=.returned (.bool (us L F n 1 ((x:Int)+3) s fn))∧Below W.heap.size W w'):=fun W hW hG=>hA _ e k s fn W hW hG q1 qe.1 (by omega) (endB_shut q2) (by omega)
 generalize us L F n 1 ((x:Int)+3) s fn=o1 at HC ⊢
 clear hU hA
 generalize sgAt L ((x:Int))=y0 at s0 b40
 generalize sgAt L ((x:Int)+1)=y1 at s1 b_fn b_do b_let b_hget
 go_enter Tryz.func112,Tryz.ntmps112
 go_wp2_with fail
 refine (HC.out _ h hF).mono ?_
 rintro r w8 ⟨rfl,hb8⟩
 go_wp2
 go_ret
 exact ⟨rfl,hb8⟩
set_option maxRecDepth 100000 in
set_option maxHeartbeats 4000000 in
theorem use_hput (hU:UseC a cap L g fc F n) (hA:AnyC a cap L g fc F n) (hL:L.length≤2000) (x:Nat) (s:ByteArray) (fn:Bool) (w:World) (h:ArgT w a L) (hF:FlgA w g L.length F) (hv:ItV L (x:Int)) (hn:2 * farN L (x:Int)≤n+1) (ho:isW (sgAt L (x:Int)) [40]=true) (hw:isW (sgAt L ((x:Int)+1)) [104,112,117,116]=true) :
  Calls Tryz.prog 112 #[.slice a L.length cap,.slice (some ⟨g,0,none⟩) L.length fc,.int .i64 (x:Int),.string s,.bool fn] w fun e w'=>e=.returned (.bool (us L F n 1 ((x:Int)+3) s fn))∧Below w.heap.size w w':=by
 have hve:=hv.ends
 obtain ⟨q0,_,k,e,q1,q2,q3⟩:=hv.name_sums ho _ hw (Or.inr rfl)
 have qe:=sgAt_shut q2
 have qc:=chainV_ends k _ q1 qe.1
 have hfar:=far_lt (L:=L) (i:=(x:Int)) (j:=(x:Int)+3) hve.1 (by omega) (by omega)
 obtain ⟨sb,off,rfl,s0,hsb⟩:=h.sg (i:=x) (by omega)
 have b40:((sgAt L (x:Int)).toList == [40])=true:=ho
 obtain ⟨sb1,off1,ha1,s1,_⟩:=h.sg (i:=x+1) (by omega)
 injection ha1 with ha1
 injection ha1 with e1 f1 _
 subst e1
 subst f1
 rw [show ((x+1:Nat):Int)=(x:Int)+1 by omega] at s1
 have hxu:x+1 < L.length:=by omega
 have b_fn:((sgAt L ((x:Int)+1)).toList == [102,110])=false:=isW_other hw (by decide)
 have b_do:((sgAt L ((x:Int)+1)).toList == [100,111])=false:=isW_other hw (by decide)
 have b_let:((sgAt L ((x:Int)+1)).toList == [108,101,116])=false:=isW_other hw (by decide)
 have b_hget:((sgAt L ((x:Int)+1)).toList == [104,103,101,116])=false:=isW_other hw (by decide)
 have b_hput:((sgAt L ((x:Int)+1)).toList == [104,112,117,116])=true:=hw
 have HC:Hid (∀ W:World,ArgT W (some ⟨sb,off,none⟩) L→FlgA W g L.length F→Calls Tryz.prog 62 #[.slice (some ⟨sb,off,none⟩) L.length cap,.slice (some ⟨g,0,none⟩) L.length fc,.int .i64 ((x:Int)+3),.string s,.bool fn] W fun e w'=>e=.returned (.bool (us L F n 1 ((x:Int)+3) s fn))∧Below W.heap.size W w'):=fun W hW hG=>hA _ e k s fn W hW hG q1 qe.1 (by omega) (endB_shut q2) (by omega)
 generalize us L F n 1 ((x:Int)+3) s fn=o1 at HC ⊢
 clear hU hA
 generalize sgAt L ((x:Int))=y0 at s0 b40
 generalize sgAt L ((x:Int)+1)=y1 at s1 b_fn b_do b_let b_hget b_hput
 go_enter Tryz.func112,Tryz.ntmps112
 go_wp2_with fail
 refine (HC.out _ h hF).mono ?_
 rintro r w8 ⟨rfl,hb8⟩
 go_wp2
 go_ret
 exact ⟨rfl,hb8⟩
set_option maxRecDepth 100000 in
set_option maxHeartbeats 4000000 in
theorem use_set (hU:UseC a cap L g fc F n) (hA:AnyC a cap L g fc F n) (hL:L.length≤2000) (x:Nat) (s:ByteArray) (fn:Bool) (w:World) (h:ArgT w a L) (hF:FlgA w g L.length F) (hv:ItV L (x:Int)) (hn:2 * farN L (x:Int)≤n+1) (ho:isW (sgAt L (x:Int)) [40]=true) (hw:isW (sgAt L ((x:Int)+1)) [115,101,116]=true) :
  Calls Tryz.prog 112 #[.slice a L.length cap,.slice (some ⟨g,0,none⟩) L.length fc,.int .i64 (x:Int),.string s,.bool fn] w fun e w'=>e=.returned (.bool (if fn && eqS (sgAt L ((x:Int)+2)) s then true else us L F n 1 ((x:Int)+3) s fn))∧Below w.heap.size w w':=by
 have hve:=hv.ends
 obtain ⟨q0,k,e,q1,q2,q3⟩:=hv.name_end ho _ hw (Or.inr rfl)
 have qe:=sgAt_shut q2
 have qc:=chainV_ends k _ q1 qe.1
 have hfar:=far_lt (L:=L) (i:=(x:Int)) (j:=(x:Int)+3) hve.1 (by omega) (by omega)
 obtain ⟨sb,off,rfl,s0,hsb⟩:=h.sg (i:=x) (by omega)
 have b40:((sgAt L (x:Int)).toList == [40])=true:=ho
 obtain ⟨sb1,off1,ha1,s1,_⟩:=h.sg (i:=x+1) (by omega)
 injection ha1 with ha1
 injection ha1 with e1 f1 _
 subst e1
 subst f1
 rw [show ((x+1:Nat):Int)=(x:Int)+1 by omega] at s1
 obtain ⟨sb2,off2,ha2,s2,_⟩:=h.sg (i:=x+2) (by omega)
 injection ha2 with ha2
 injection ha2 with e2 f2 _
 subst e2
 subst f2
 rw [show ((x+2:Nat):Int)=(x:Int)+2 by omega] at s2
 have hxu:x+2 < L.length:=by omega
 have b_fn:((sgAt L ((x:Int)+1)).toList == [102,110])=false:=isW_other hw (by decide)
 have b_do:((sgAt L ((x:Int)+1)).toList == [100,111])=false:=isW_other hw (by decide)
 have b_let:((sgAt L ((x:Int)+1)).toList == [108,101,116])=false:=isW_other hw (by decide)
 have b_hget:((sgAt L ((x:Int)+1)).toList == [104,103,101,116])=false:=isW_other hw (by decide)
 have b_hput:((sgAt L ((x:Int)+1)).toList == [104,112,117,116])=false:=isW_other hw (by decide)
 have b_set:((sgAt L ((x:Int)+1)).toList == [115,101,116])=true:=hw
 have HC:Hid (∀ W:World,ArgT W (some ⟨sb,off,none⟩) L→FlgA W g L.length F→Calls Tryz.prog 62 #[.slice (some ⟨sb,off,none⟩) L.length cap,.slice (some ⟨g,0,none⟩) L.length fc,.int .i64 ((x:Int)+3),.string s,.bool fn] W fun e w'=>e=.returned (.bool (us L F n 1 ((x:Int)+3) s fn))∧Below W.heap.size W w'):=fun W hW hG=>hA _ e k s fn W hW hG q1 qe.1 (by omega) (endB_shut q2) (by omega)
 generalize us L F n 1 ((x:Int)+3) s fn=o1 at HC ⊢
 clear hU hA
 generalize sgAt L ((x:Int))=y0 at s0 b40
 generalize sgAt L ((x:Int)+1)=y1 at s1 b_fn b_do b_let b_hget b_hput b_set
 generalize sgAt L ((x:Int)+2)=y2 at s2 ⊢
 unfold eqS
 cases fn
 ·go_enter Tryz.func112,Tryz.ntmps112
  go_wp2_with fail
  refine (HC.out _ h hF).mono ?_
  rintro r w8 ⟨rfl,hb8⟩
  go_wp2
  go_ret
  exact ⟨rfl,hb8⟩
 ·cases hq:(y2.toList == s.toList)
  ·go_enter Tryz.func112,Tryz.ntmps112
   go_wp2_with fail
   refine (HC.out _ h hF).mono ?_
   rintro r w8 ⟨rfl,hb8⟩
   go_wp2
   go_ret
   exact ⟨rfl,hb8⟩
  ·go_enter Tryz.func112,Tryz.ntmps112
   go_wp2
   go_ret
   exact ⟨rfl,Below.refl _ _⟩
set_option maxRecDepth 100000 in
set_option maxHeartbeats 4000000 in
theorem use_take (hU:UseC a cap L g fc F n) (hA:AnyC a cap L g fc F n) (hL:L.length≤2000) (x:Nat) (s:ByteArray) (fn:Bool) (w:World) (h:ArgT w a L) (hF:FlgA w g L.length F) (hv:ItV L (x:Int)) (hn:2 * farN L (x:Int)≤n+1) (ho:isW (sgAt L (x:Int)) [40]=true) (hw:isW (sgAt L ((x:Int)+1)) [116,97,107,101]=true) :
  Calls Tryz.prog 112 #[.slice a L.length cap,.slice (some ⟨g,0,none⟩) L.length fc,.int .i64 (x:Int),.string s,.bool fn] w fun e w'=>e=.returned (.bool (us L F n 1 (itemE L ((x:Int)+2)) s fn))∧Below w.heap.size w w':=by
 have hve:=hv.ends
 obtain ⟨q0,k,e,q1,q2,q3⟩:=hv.take_end ho hw
 have qe:=sgAt_shut q2
 have qc:=chainV_ends k _ q1 qe.1
 have hfar:=far_lt (L:=L) (i:=(x:Int)) (j:=itemE L ((x:Int)+2)) hve.1 (by omega) (by omega)
 obtain ⟨sb,off,rfl,s0,hsb⟩:=h.sg (i:=x) (by omega)
 have b40:((sgAt L (x:Int)).toList == [40])=true:=ho
 obtain ⟨sb1,off1,ha1,s1,_⟩:=h.sg (i:=x+1) (by omega)
 injection ha1 with ha1
 injection ha1 with e1 f1 _
 subst e1
 subst f1
 rw [show ((x+1:Nat):Int)=(x:Int)+1 by omega] at s1
 have hxu:x+1 < L.length:=by omega
 have b_fn:((sgAt L ((x:Int)+1)).toList == [102,110])=false:=isW_other hw (by decide)
 have b_do:((sgAt L ((x:Int)+1)).toList == [100,111])=false:=isW_other hw (by decide)
 have b_let:((sgAt L ((x:Int)+1)).toList == [108,101,116])=false:=isW_other hw (by decide)
 have b_hget:((sgAt L ((x:Int)+1)).toList == [104,103,101,116])=false:=isW_other hw (by decide)
 have b_hput:((sgAt L ((x:Int)+1)).toList == [104,112,117,116])=false:=isW_other hw (by decide)
 have b_set:((sgAt L ((x:Int)+1)).toList == [115,101,116])=false:=isW_other hw (by decide)
 have b_take:((sgAt L ((x:Int)+1)).toList == [116,97,107,101])=true:=hw
 have HI:Hid (∀ W:World,ArgT W (some ⟨sb,off,none⟩) L→Calls Tryz.prog 25 #[.slice (some ⟨sb,off,none⟩) L.length cap,.int .i64 ((x:Int)+2)] W fun e w'=>e=.returned (.int .i64 (itemE L ((x:Int)+2)))∧Below W.heap.size W w'):=fun W hW=>itemEndS_any _ cap L ((x:Int)+2) W hW (by omega) ⟨by omega,by omega⟩
 have HC:Hid (∀ W:World,ArgT W (some ⟨sb,off,none⟩) L→FlgA W g L.length F→Calls Tryz.prog 62 #[.slice (some ⟨sb,off,none⟩) L.length cap,.slice (some ⟨g,0,none⟩) L.length fc,.int .i64 (itemE L ((x:Int)+2)),.string s,.bool fn] W fun e w'=>e=.returned (.bool (us L F n 1 (itemE L ((x:Int)+2)) s fn))∧Below W.heap.size W w'):=fun W hW hG=>hA _ e k s fn W hW hG q1 qe.1 (by omega) (endB_shut q2) (by omega)
 generalize us L F n 1 (itemE L ((x:Int)+2)) s fn=o1 at HC ⊢
 generalize itemE L ((x:Int)+2)=z at HC HI
 clear hU hA q0 q1 qc hfar
 generalize sgAt L ((x:Int))=y0 at s0 b40
 generalize sgAt L ((x:Int)+1)=y1 at s1 b_fn b_do b_let b_hget b_hput b_set b_take
 go_enter Tryz.func112,Tryz.ntmps112
 go_wp2_with fail
 refine (HI.out _ h).mono ?_
 rintro r w7 ⟨rfl,hb7⟩
 go_wp2_with fail
 refine (HC.out _ (h.call hb7) (hF.call hb7)).mono ?_
 rintro r w8 ⟨rfl,hb8⟩
 go_wp2
 go_ret
 exact ⟨rfl,bstep hb7 hb8⟩
set_option maxRecDepth 100000 in
set_option maxHeartbeats 4000000 in
theorem use_hidden (hL:L.length≤2000) (x:Nat) (s:ByteArray) (fn:Bool) (w:World) (h:ArgT w a L) (ho:isW (sgAt L (x:Int)) [40]=true) (hw:isW (sgAt L ((x:Int)+1)) [104,105,100,100,101,110]=true) (hx:x+1 < L.length) :
  Calls Tryz.prog 112 #[.slice a L.length cap,.slice (some ⟨g,0,none⟩) L.length fc,.int .i64 (x:Int),.string s,.bool fn] w fun e w'=>e=.returned (.bool (false))∧Below w.heap.size w w':=by
 obtain ⟨sb,off,rfl,s0,hsb⟩:=h.sg (i:=x) (by omega)
 have b40:((sgAt L (x:Int)).toList == [40])=true:=ho
 obtain ⟨sb1,off1,ha1,s1,_⟩:=h.sg (i:=x+1) (by omega)
 injection ha1 with ha1
 injection ha1 with e1 f1 _
 subst e1
 subst f1
 rw [show ((x+1:Nat):Int)=(x:Int)+1 by omega] at s1
 have hxu:x+1 < L.length:=by omega
 have b_fn:((sgAt L ((x:Int)+1)).toList == [102,110])=false:=isW_other hw (by decide)
 have b_do:((sgAt L ((x:Int)+1)).toList == [100,111])=false:=isW_other hw (by decide)
 have b_let:((sgAt L ((x:Int)+1)).toList == [108,101,116])=false:=isW_other hw (by decide)
 have b_hget:((sgAt L ((x:Int)+1)).toList == [104,103,101,116])=false:=isW_other hw (by decide)
 have b_hput:((sgAt L ((x:Int)+1)).toList == [104,112,117,116])=false:=isW_other hw (by decide)
 have b_set:((sgAt L ((x:Int)+1)).toList == [115,101,116])=false:=isW_other hw (by decide)
 have b_take:((sgAt L ((x:Int)+1)).toList == [116,97,107,101])=false:=isW_other hw (by decide)
 have b_hidden:((sgAt L ((x:Int)+1)).toList == [104,105,100,100,101,110])=true:=hw
 generalize sgAt L ((x:Int))=y0 at s0 b40
 generalize sgAt L ((x:Int)+1)=y1 at s1 b_fn b_do b_let b_hget b_hput b_set b_take b_hidden
 go_enter Tryz.func112,Tryz.ntmps112
 go_wp2
 go_ret
 exact ⟨rfl,Below.refl _ _⟩
set_option maxRecDepth 100000 in
set_option maxHeartbeats 4000000 in
theorem use_vars (hL:L.length≤2000) (x:Nat) (s:ByteArray) (fn:Bool) (w:World) (h:ArgT w a L) (ho:isW (sgAt L (x:Int)) [40]=true) (hw:isW (sgAt L ((x:Int)+1)) [118,97,114,115]=true) (hx:x+1 < L.length) :
  Calls Tryz.prog 112 #[.slice a L.length cap,.slice (some ⟨g,0,none⟩) L.length fc,.int .i64 (x:Int),.string s,.bool fn] w fun e w'=>e=.returned (.bool (false))∧Below w.heap.size w w':=by
 obtain ⟨sb,off,rfl,s0,hsb⟩:=h.sg (i:=x) (by omega)
 have b40:((sgAt L (x:Int)).toList == [40])=true:=ho
 obtain ⟨sb1,off1,ha1,s1,_⟩:=h.sg (i:=x+1) (by omega)
 injection ha1 with ha1
 injection ha1 with e1 f1 _
 subst e1
 subst f1
 rw [show ((x+1:Nat):Int)=(x:Int)+1 by omega] at s1
 have hxu:x+1 < L.length:=by omega
 have b_fn:((sgAt L ((x:Int)+1)).toList == [102,110])=false:=isW_other hw (by decide)
 have b_do:((sgAt L ((x:Int)+1)).toList == [100,111])=false:=isW_other hw (by decide)
 have b_let:((sgAt L ((x:Int)+1)).toList == [108,101,116])=false:=isW_other hw (by decide)
 have b_hget:((sgAt L ((x:Int)+1)).toList == [104,103,101,116])=false:=isW_other hw (by decide)
 have b_hput:((sgAt L ((x:Int)+1)).toList == [104,112,117,116])=false:=isW_other hw (by decide)
 have b_set:((sgAt L ((x:Int)+1)).toList == [115,101,116])=false:=isW_other hw (by decide)
 have b_take:((sgAt L ((x:Int)+1)).toList == [116,97,107,101])=false:=isW_other hw (by decide)
 have b_hidden:((sgAt L ((x:Int)+1)).toList == [104,105,100,100,101,110])=false:=isW_other hw (by decide)
 have b_vars:((sgAt L ((x:Int)+1)).toList == [118,97,114,115])=true:=hw
 generalize sgAt L ((x:Int))=y0 at s0 b40
 generalize sgAt L ((x:Int)+1)=y1 at s1 b_fn b_do b_let b_hget b_hput b_set b_take b_hidden b_vars
 go_enter Tryz.func112,Tryz.ntmps112
 go_wp2
 go_ret
 exact ⟨rfl,Below.refl _ _⟩
set_option maxRecDepth 100000 in
set_option maxHeartbeats 4000000 in
theorem use_do (hU:UseC a cap L g fc F n) (hA:AnyC a cap L g fc F n) (hL:L.length≤2000) (x:Nat) (s:ByteArray) (fn:Bool) (w:World) (h:ArgT w a L) (hF:FlgA w g L.length F) (hv:ItV L (x:Int)) (hn:2 * farN L (x:Int)≤n+1) (ho:isW (sgAt L (x:Int)) [40]=true) (hw:isW (sgAt L ((x:Int)+1)) [100,111]=true) :
  Calls Tryz.prog 112 #[.slice a L.length cap,.slice (some ⟨g,0,none⟩) L.length fc,.int .i64 (x:Int),.string s,.bool fn] w fun e w'=>e=.returned (.bool (if inB (decN L ((x:Int)+2)) s then false else us L F n 1 ((x:Int)+2) s (fn || F x)))∧Below w.heap.size w w':=by
 have hve:=hv.ends
 obtain ⟨k,e,q1d,q2,q3⟩:=hv.deeds ho hw
 have qe:=sgAt_shut q2
 have qc:=chain_ends k _ q1d qe.1
 have q1:=(chain_deeds k _ q1d).1
 have hdc:=dec_chain q1d qe.1 (by omega) (endB_shut q2)
 have hdl:=decN_len q1d qe.1 (by omega) (endB_shut q2)
 have hfar:=far_lt (L:=L) (i:=(x:Int)) (j:=(x:Int)+2) hve.1 (by omega) (by omega)
 obtain ⟨sb,off,rfl,s0,hsb⟩:=h.sg (i:=x) (by omega)
 have b40:((sgAt L (x:Int)).toList == [40])=true:=ho
 obtain ⟨sb1,off1,ha1,s1,_⟩:=h.sg (i:=x+1) (by omega)
 injection ha1 with ha1
 injection ha1 with e1 f1 _
 subst e1
 subst f1
 rw [show ((x+1:Nat):Int)=(x:Int)+1 by omega] at s1
 have hxu:x+1 < L.length:=by omega
 have b_fn:((sgAt L ((x:Int)+1)).toList == [102,110])=false:=isW_other hw (by decide)
 have b_do:((sgAt L ((x:Int)+1)).toList == [100,111])=true:=hw
 obtain ⟨f,hf⟩:∃ f:Bool→Bool,∀ b,us L F n 1 ((x:Int)+2) s b=f b:=⟨_,fun _=>rfl⟩
 rw [hf]
 have HC:Hid (∀ (b:Bool) (W:World),ArgT W (some ⟨sb,off,none⟩) L→FlgA W g L.length F→Calls Tryz.prog 62 #[.slice (some ⟨sb,off,none⟩) L.length cap,.slice (some ⟨g,0,none⟩) L.length fc,.int .i64 ((x:Int)+2),.string s,.bool b] W fun e w'=>e=.returned (.bool (f b))∧Below W.heap.size W w'):=fun b W hW hG=>by rw [← hf];exact hA _ e k s b W hW hG q1 qe.1 (by omega) (endB_shut q2) (by omega)
 have HD:Hid (Calls Tryz.prog 58 #[.slice (some ⟨sb,off,none⟩) L.length cap,.int .i64 ((x:Int)+2),.bool false] w fun r w'=>∃ v,r=.returned v∧OwnN w' w.heap.size v (decN L ((x:Int)+2))∧Below w.heap.size w w'):=by
  have:=l5Declared_false _ cap L k _ e w h (by omega) (by omega) (by omega) qe.1 (endB_shut q2) q1d
  rw [hdc] at this
  exact this
 have hXl:(decN L ((x:Int)+2)).length≤5000000:=by omega
 clear hf hU hA hdc hdl
 generalize decN L ((x:Int)+2)=X at HD hXl ⊢
 generalize hR:(if inB X s then false else f (fn || F x))=R
 have HR:Hid ((if inB X s then false else f (fn || F x))=R):=hR
 clear hR
 generalize sgAt L ((x:Int))=y0 at s0 b40
 generalize sgAt L ((x:Int)+1)=y1 at s1 b_fn b_do
 go_enter Tryz.func112,Tryz.ntmps112
 go_wp2_with fail
 refine HD.out.mono ?_
 rintro r w1 ⟨v,rfl,hN,hb1⟩
 have h1:=h.call hb1
 have hF1:=hF.call hb1
 have f1:=hF1.2 x (by omega)
 clear HD
 go_wp2_with fail
 refine (l1At_own _ v X s _ hN hXl).mono ?_
 rintro r w2 ⟨y,rfl,hy,rfl⟩
 cases hq:inB X s
 ·have hy0:¬ 0≤y:=fun hh=>by
   have:=hy.mp hh
   rw [hq] at this
   cases this
  have HQ:Hid (R=f (fn || F x)):=(by rw [← HR.out,hq];rfl:R=f (fn || F x))
  clear hy hq HR
  generalize F x=fx at f1 HQ
  cases fn
  ·go_wp2_with fail
   refine (HC.out fx _ h1 hF1).mono ?_
   rintro r w8 ⟨rfl,hb8⟩
   go_wp2
   go_ret
   exact ⟨by rw [HQ.out];rfl,bstep hb1 hb8⟩
  ·go_wp2_with fail
   refine (HC.out true _ h1 hF1).mono ?_
   rintro r w8 ⟨rfl,hb8⟩
   go_wp2
   go_ret
   exact ⟨by rw [HQ.out];rfl,bstep hb1 hb8⟩
 ·have hy0:0≤y:=hy.mpr hq
  have HQ:Hid (R=false):=(by rw [← HR.out,hq];rfl:R=false)
  clear hy hq HR
  go_wp2
  go_ret
  exact ⟨by rw [HQ.out];rfl,hb1⟩
set_option maxRecDepth 100000 in
set_option maxHeartbeats 4000000 in
theorem use_for (hU:UseC a cap L g fc F n) (hA:AnyC a cap L g fc F n) (hL:L.length≤2000) (x:Nat) (s:ByteArray) (fn:Bool) (w:World) (h:ArgT w a L) (hF:FlgA w g L.length F) (hv:ItV L (x:Int)) (hn:2 * farN L (x:Int)≤n+1) (ho:isW (sgAt L (x:Int)) [40]=true) (hw:isW (sgAt L ((x:Int)+1)) [102,111,114]=true) :
  Calls Tryz.prog 112 #[.slice a L.length cap,.slice (some ⟨g,0,none⟩) L.length fc,.int .i64 (x:Int),.string s,.bool fn] w fun e w'=>e=.returned (.bool (if us L F n 0 ((x:Int)+3) s fn || us L F n 0 (itemE L ((x:Int)+3)) s fn then true else !eqS (sgAt L ((x:Int)+2)) s && us L F n 0 (itemE L (itemE L ((x:Int)+3))) s fn))∧Below w.heap.size w w':=by
 have hve:=hv.ends
 obtain ⟨_,q0,q1,q2,q3,q4⟩:=hv.name_three ho hw
 have z1:=q1.ends
 have z2:=q2.ends
 have z3:=q3.ends
 have hfar:=far_lt (L:=L) (i:=(x:Int)) (j:=(x:Int)+3) hve.1 (by omega) (by omega)
 have hfar2:=far_lt (L:=L) (i:=(x:Int)) (j:=itemE L ((x:Int)+3)) hve.1 (by omega) (by omega)
 have hfar3:=far_lt (L:=L) (i:=(x:Int)) (j:=itemE L (itemE L ((x:Int)+3))) hve.1 (by omega) (by omega)
 obtain ⟨sb,off,rfl,s0,hsb⟩:=h.sg (i:=x) (by omega)
 have b40:((sgAt L (x:Int)).toList == [40])=true:=ho
 obtain ⟨sb1,off1,ha1,s1,_⟩:=h.sg (i:=x+1) (by omega)
 injection ha1 with ha1
 injection ha1 with e1 f1 _
 subst e1
 subst f1
 rw [show ((x+1:Nat):Int)=(x:Int)+1 by omega] at s1
 obtain ⟨sb2,off2,ha2,s2,_⟩:=h.sg (i:=x+2) (by omega)
 injection ha2 with ha2
 injection ha2 with e2 f2 _
 subst e2
 subst f2
 rw [show ((x+2:Nat):Int)=(x:Int)+2 by omega] at s2
 have hxu:x+2 < L.length:=by omega
 have b_fn:((sgAt L ((x:Int)+1)).toList == [102,110])=false:=isW_other hw (by decide)
 have b_do:((sgAt L ((x:Int)+1)).toList == [100,111])=false:=isW_other hw (by decide)
 have b_let:((sgAt L ((x:Int)+1)).toList == [108,101,116])=false:=isW_other hw (by decide)
 have b_hget:((sgAt L ((x:Int)+1)).toList == [104,103,101,116])=false:=isW_other hw (by decide)
 have b_hput:((sgAt L ((x:Int)+1)).toList == [104,112,117,116])=false:=isW_other hw (by decide)
 have b_set:((sgAt L ((x:Int)+1)).toList == [115,101,116])=false:=isW_other hw (by decide)
 have b_take:((sgAt L ((x:Int)+1)).toList == [116,97,107,101])=false:=isW_other hw (by decide)
 have b_hidden:((sgAt L ((x:Int)+1)).toList == [104,105,100,100,101,110])=false:=isW_other hw (by decide)
 have b_vars:((sgAt L ((x:Int)+1)).toList == [118,97,114,115])=false:=isW_other hw (by decide)
 have b_for:((sgAt L ((x:Int)+1)).toList == [102,111,114])=true:=hw
 have HU1:Hid (∀ W:World,ArgT W (some ⟨sb,off,none⟩) L→FlgA W g L.length F→Calls Tryz.prog 112 #[.slice (some ⟨sb,off,none⟩) L.length cap,.slice (some ⟨g,0,none⟩) L.length fc,.int .i64 ((x:Int)+3),.string s,.bool fn] W fun e w'=>e=.returned (.bool (us L F n 0 ((x:Int)+3) s fn))∧Below W.heap.size W w'):=fun W hW hG=>hU _ s fn W hW hG (by assumption) (by omega)
 have HU2:Hid (∀ W:World,ArgT W (some ⟨sb,off,none⟩) L→FlgA W g L.length F→Calls Tryz.prog 112 #[.slice (some ⟨sb,off,none⟩) L.length cap,.slice (some ⟨g,0,none⟩) L.length fc,.int .i64 (itemE L ((x:Int)+3)),.string s,.bool fn] W fun e w'=>e=.returned (.bool (us L F n 0 (itemE L ((x:Int)+3)) s fn))∧Below W.heap.size W w'):=fun W hW hG=>hU _ s fn W hW hG (by assumption) (by omega)
 have HU3:Hid (∀ W:World,ArgT W (some ⟨sb,off,none⟩) L→FlgA W g L.length F→Calls Tryz.prog 112 #[.slice (some ⟨sb,off,none⟩) L.length cap,.slice (some ⟨g,0,none⟩) L.length fc,.int .i64 (itemE L (itemE L ((x:Int)+3))),.string s,.bool fn] W fun e w'=>e=.returned (.bool (us L F n 0 (itemE L (itemE L ((x:Int)+3))) s fn))∧Below W.heap.size W w'):=fun W hW hG=>hU _ s fn W hW hG (by assumption) (by omega)
 have HI1:Hid (∀ W:World,ArgT W (some ⟨sb,off,none⟩) L→Calls Tryz.prog 25 #[.slice (some ⟨sb,off,none⟩) L.length cap,.int .i64 ((x:Int)+3)] W fun e w'=>e=.returned (.int .i64 (itemE L ((x:Int)+3)))∧Below W.heap.size W w'):=fun W hW=>itemEndS_any _ cap L ((x:Int)+3) W hW (by omega) ⟨by omega,by omega⟩
 have HI2:Hid (∀ W:World,ArgT W (some ⟨sb,off,none⟩) L→Calls Tryz.prog 25 #[.slice (some ⟨sb,off,none⟩) L.length cap,.int .i64 (itemE L ((x:Int)+3))] W fun e w'=>e=.returned (.int .i64 (itemE L (itemE L ((x:Int)+3))))∧Below W.heap.size W w'):=fun W hW=>itemEndS_any _ cap L (itemE L ((x:Int)+3)) W hW (by omega) ⟨by omega,by omega⟩
 generalize us L F n 0 ((x:Int)+3) s fn=o1 at HU1 ⊢
 generalize us L F n 0 (itemE L ((x:Int)+3)) s fn=o2 at HU2 ⊢
 generalize us L F n 0 (itemE L (itemE L ((x:Int)+3))) s fn=o3 at HU3 ⊢
 generalize itemE L (itemE L ((x:Int)+3))=u3 at HU3 HI2
 generalize itemE L ((x:Int)+3)=u2 at HU2 HI1 HI2
 clear hU hA q1 q2 q3 q4 z1 z2 z3 hfar hfar2 hfar3
 generalize sgAt L ((x:Int))=y0 at s0 b40
 generalize sgAt L ((x:Int)+1)=y1 at s1 b_fn b_do b_let b_hget b_hput b_set b_take b_hidden b_vars b_for
 generalize sgAt L ((x:Int)+2)=y2 at s2 ⊢
 generalize hR:(if o1 || o2 then true else !eqS y2 s && o3)=R
 have HR:Hid ((if o1 || o2 then true else !eqS y2 s && o3)=R):=hR
 clear hR
 unfold eqS at HR
 go_enter Tryz.func112,Tryz.ntmps112
 go_wp2_with fail
 refine (HI1.out _ h).mono ?_
 rintro r w1 ⟨rfl,hb1⟩
 go_wp2_with fail
 refine (HU1.out _ (h.call hb1) (hF.call hb1)).mono ?_
 rintro r w2 ⟨rfl,hb2⟩
 have hB2:=bstep hb1 hb2
 clear HI1 HU1
 cases o1
 ·go_wp2_with fail
  refine (HU2.out _ (h.call hB2) (hF.call hB2)).mono ?_
  rintro r w3 ⟨rfl,hb3⟩
  have hB3:=bstep hB2 hb3
  clear HU2
  cases o2
  ·have s2':=(hB3.cell (p:=⟨sb,off+(x+2),none⟩) hsb).trans s2
   cases hq:(y2.toList == s.toList)
   ·go_wp2_with fail
    refine (HI2.out _ (h.call hB3)).mono ?_
    rintro r w4 ⟨rfl,hb4⟩
    have hB4:=bstep hB3 hb4
    go_wp2_with fail
    refine (HU3.out _ (h.call hB4) (hF.call hB4)).mono ?_
    rintro r w5 ⟨rfl,hb5⟩
    go_wp2
    go_ret
    exact ⟨by rw [← HR.out,hq];cases o3 <;> rfl,bstep hB4 hb5⟩
   ·go_wp2
    go_ret
    exact ⟨by rw [← HR.out,hq];rfl,hB3⟩
  ·go_wp2
   go_ret
   exact ⟨by rw [← HR.out];rfl,hB3⟩
 ·go_wp2
  go_ret
  exact ⟨by rw [← HR.out];rfl,hB2⟩
set_option maxRecDepth 100000 in
set_option maxHeartbeats 4000000 in
theorem use_leaf (x:Nat) (s:ByteArray) (fn:Bool) (w:World) (h:ArgT w a L) (hv:ItV L (x:Int)) (ho:isW (sgAt L (x:Int)) [40]=false) :
  Calls Tryz.prog 112 #[.slice a L.length cap,.slice (some ⟨g,0,none⟩) L.length fc,.int .i64 (x:Int),.string s,.bool fn] w fun e w'=>e=.returned (.bool (fn && eqS (sgAt L (x:Int)) s))∧Below w.heap.size w w':=by
 have hve:=hv.ends
 obtain ⟨sb,off,rfl,s0,hsb⟩:=h.sg (i:=x) (by omega)
 have b40:((sgAt L (x:Int)).toList == [40])=false:=ho
 generalize sgAt L (x:Int)=y0 at s0 b40 ⊢
 unfold eqS
 cases fn
 ·go_enter Tryz.func112,Tryz.ntmps112
  go_wp2
  go_ret
  exact ⟨rfl,Below.refl _ _⟩
 ·cases hq:(y0.toList == s.toList)
  ·go_enter Tryz.func112,Tryz.ntmps112
   go_wp2
   go_ret
   exact ⟨rfl,Below.refl _ _⟩
  ·go_enter Tryz.func112,Tryz.ntmps112
   go_wp2
   go_ret
   exact ⟨rfl,Below.refl _ _⟩
set_option maxRecDepth 100000 in
set_option maxHeartbeats 4000000 in
theorem use_else (hU:UseC a cap L g fc F n) (hA:AnyC a cap L g fc F n) (hL:L.length≤2000) (x:Nat) (s:ByteArray) (fn:Bool) (w:World) (h:ArgT w a L) (hF:FlgA w g L.length F) (hv:ItV L (x:Int)) (hn:2 * farN L (x:Int)≤n+1) (ho:isW (sgAt L (x:Int)) [40]=true) (h_fn:isW (sgAt L ((x:Int)+1)) [102,110]=false) (h_do:isW (sgAt L ((x:Int)+1)) [100,111]=false) (h_let:isW (sgAt L ((x:Int)+1)) [108,101,116]=false) (h_hget:isW (sgAt L ((x:Int)+1)) [104,103,101,116]=false) (h_hput:isW (sgAt L ((x:Int)+1)) [104,112,117,116]=false) (h_set:isW (sgAt L ((x:Int)+1)) [115,101,116]=false) (h_take:isW (sgAt L ((x:Int)+1)) [116,97,107,101]=false) (h_hidden:isW (sgAt L ((x:Int)+1)) [104,105,100,100,101,110]=false) (h_vars:isW (sgAt L ((x:Int)+1)) [118,97,114,115]=false) (h_for:isW (sgAt L ((x:Int)+1)) [102,111,114]=false) :
  Calls Tryz.prog 112 #[.slice a L.length cap,.slice (some ⟨g,0,none⟩) L.length fc,.int .i64 (x:Int),.string s,.bool fn] w fun e w'=>e=.returned (.bool (us L F n 1 ((x:Int)+2) s fn))∧Below w.heap.size w w':=by
 have hve:=hv.ends
 obtain ⟨k,e,q1,q2,q3⟩:=hv.items ho h_fn h_do h_let h_set h_take h_hget h_hput h_hidden h_vars h_for
 have qe:=sgAt_shut q2
 have qc:=chainV_ends k _ q1 qe.1
 have hfar:=far_lt (L:=L) (i:=(x:Int)) (j:=(x:Int)+2) hve.1 (by omega) (by omega)
 obtain ⟨sb,off,rfl,s0,hsb⟩:=h.sg (i:=x) (by omega)
 have b40:((sgAt L (x:Int)).toList == [40])=true:=ho
 obtain ⟨sb1,off1,ha1,s1,_⟩:=h.sg (i:=x+1) (by omega)
 injection ha1 with ha1
 injection ha1 with e1 f1 _
 subst e1
 subst f1
 rw [show ((x+1:Nat):Int)=(x:Int)+1 by omega] at s1
 have hxu:x+1 < L.length:=by omega
 have b_fn:((sgAt L ((x:Int)+1)).toList == [102,110])=false:=h_fn
 have b_do:((sgAt L ((x:Int)+1)).toList == [100,111])=false:=h_do
 have b_let:((sgAt L ((x:Int)+1)).toList == [108,101,116])=false:=h_let
 have b_hget:((sgAt L ((x:Int)+1)).toList == [104,103,101,116])=false:=h_hget
 have b_hput:((sgAt L ((x:Int)+1)).toList == [104,112,117,116])=false:=h_hput
 have b_set:((sgAt L ((x:Int)+1)).toList == [115,101,116])=false:=h_set
 have b_take:((sgAt L ((x:Int)+1)).toList == [116,97,107,101])=false:=h_take
 have b_hidden:((sgAt L ((x:Int)+1)).toList == [104,105,100,100,101,110])=false:=h_hidden
 have b_vars:((sgAt L ((x:Int)+1)).toList == [118,97,114,115])=false:=h_vars
 have b_for:((sgAt L ((x:Int)+1)).toList == [102,111,114])=false:=h_for
 have HC:Hid (∀ W:World,ArgT W (some ⟨sb,off,none⟩) L→FlgA W g L.length F→Calls Tryz.prog 62 #[.slice (some ⟨sb,off,none⟩) L.length cap,.slice (some ⟨g,0,none⟩) L.length fc,.int .i64 ((x:Int)+2),.string s,.bool fn] W fun e w'=>e=.returned (.bool (us L F n 1 ((x:Int)+2) s fn))∧Below W.heap.size W w'):=fun W hW hG=>hA _ e k s fn W hW hG q1 qe.1 (by omega) (endB_shut q2) (by omega)
 generalize us L F n 1 ((x:Int)+2) s fn=o1 at HC ⊢
 clear hU hA h_fn h_do h_let h_hget h_hput h_set h_take h_hidden h_vars h_for
 generalize sgAt L ((x:Int))=y0 at s0 b40
 generalize sgAt L ((x:Int)+1)=y1 at s1 b_fn b_do b_let b_hget b_hput b_set b_take b_hidden b_vars b_for
 go_enter Tryz.func112,Tryz.ntmps112
 go_wp2_with fail
 refine (HC.out _ h hF).mono ?_
 rintro r w8 ⟨rfl,hb8⟩
 go_wp2
 go_ret
 exact ⟨rfl,hb8⟩
set_option maxRecDepth 100000 in
set_option maxHeartbeats 4000000 in
theorem use_fn (hU:UseC a cap L g fc F n) (hA:AnyC a cap L g fc F n) (hL:L.length≤2000) (x:Nat) (s:ByteArray) (fn:Bool) (w:World) (h:ArgT w a L) (hF:FlgA w g L.length F) (hv:ItV L (x:Int)) (hn:2 * farN L (x:Int)≤n+1) (ho:isW (sgAt L (x:Int)) [40]=true) (hw:isW (sgAt L ((x:Int)+1)) [102,110]=true) :
  Calls Tryz.prog 112 #[.slice a L.length cap,.slice (some ⟨g,0,none⟩) L.length fc,.int .i64 (x:Int),.string s,.bool fn] w fun e w'=>e=.returned (.bool (if inB ((plc L ((x:Int)+3)).map (parN L)) s then false else if (plc L ((x:Int)+3)).any (fun p=>isW (sgAt L p) [40] && us L F n 0 (p+2) s true) then true else if inB (decN L (bodyI L (x:Int))) s then false else us L F n 1 (bodyI L (x:Int)) s true))∧Below w.heap.size w w':=by
 have hve:=hv.ends
 obtain ⟨hb,kk,e7,m7,e,c1,c2,c3,c4,c5,c6,c7,c8,c9,c10⟩:=hv.fn ho hw
 have ce:=chainQ_ends kk _ c1 c2
 have cd:=chain_ends m7 _ c6 c7
 have q1:=(chain_deeds m7 _ c6).1
 have hdc:=dec_chain c6 c7 (by omega) (endB_shut c9)
 have hdl:=decN_len c6 c7 (by omega) (endB_shut c9)
 rw [plc_par c1 c2 c3 c4,c5]
 have hfar:=far_lt (L:=L) (i:=(x:Int)) (j:=e7+1) hve.1 (by omega) (by omega)
 obtain ⟨sb,off,rfl,s0,hsb⟩:=h.sg (i:=x) (by omega)
 have b40:((sgAt L (x:Int)).toList == [40])=true:=ho
 obtain ⟨sb1,off1,ha1,s1,_⟩:=h.sg (i:=x+1) (by omega)
 injection ha1 with ha1
 injection ha1 with e1 f1 _
 subst e1
 subst f1
 rw [show ((x+1:Nat):Int)=(x:Int)+1 by omega] at s1
 have hxu:x+1 < L.length:=by omega
 have b_fn:((sgAt L ((x:Int)+1)).toList == [102,110])=true:=hw
 have HP:Hid (Calls Tryz.prog 130 #[.slice (some ⟨sb,off,none⟩) L.length cap,.int .i64 (x:Int)] w fun e w'=>∃ v,e=.returned (.tuple #[v,.int .i64 (e7+1)])∧OwnN w' w.heap.size v ((chainP L kk ((x:Int)+3)).map (parN L))∧Below w.heap.size w w'):=l5Params_any _ cap L (x:Int) e7 kk w h (by omega) (by omega) c1 c2 c3 c4
 have HC:Hid (∀ W:World,ArgT W (some ⟨sb,off,none⟩) L→FlgA W g L.length F→Calls Tryz.prog 62 #[.slice (some ⟨sb,off,none⟩) L.length cap,.slice (some ⟨g,0,none⟩) L.length fc,.int .i64 (e7+1),.string s,.bool true] W fun e w'=>e=.returned (.bool (us L F n 1 (e7+1) s true))∧Below W.heap.size W w'):=fun W hW hG=>hA _ e m7 s true W hW hG q1 c7 (by omega) (endB_shut c9) (by omega)
 have HD:Hid (∀ W:World,ArgT W (some ⟨sb,off,none⟩) L→Calls Tryz.prog 58 #[.slice (some ⟨sb,off,none⟩) L.length cap,.int .i64 (e7+1),.bool false] W fun r w'=>∃ v,r=.returned v∧OwnN w' W.heap.size v (decN L (e7+1))∧Below W.heap.size W w'):=fun W hW=>by
  have:=l5Declared_false _ cap L m7 _ e W hW (by omega) (by omega) (by omega) c7 (endB_shut c9) c6
  rw [hdc] at this
  exact this
 have hYl:(decN L (e7+1)).length≤5000000:=by omega
 have hXl:((chainP L kk ((x:Int)+3)).map (parN L)).length≤5000000:=by
  have:∀ k i,(chainP L k i).length=k:=fun k=>by
   induction k with
   | zero=>intro i;rfl
   | succ k ih=>intro i;show (chainP L k (itemE L i)).length+1=k+1;rw [ih]
  rw [List.length_map,this]
  omega
 clear hA hdc hdl q1
 generalize us L F n 1 (e7+1) s true=o4 at HC ⊢
 generalize decN L (e7+1)=Y at HD hYl ⊢
 generalize (chainP L kk ((x:Int)+3)).map (parN L)=X at HP hXl ⊢
 obtain ⟨f,hf⟩:∃ f:Int→Bool,∀ p,us L F n 0 p s true=f p:=⟨_,fun _=>rfl⟩
 obtain ⟨ff,hff⟩:∃ ff:Int→Bool,ff=fun p=>isW (sgAt L p) [40] && us L F n 0 (p+2) s true:=⟨_,rfl⟩
 rw [← hff]
 have HFF:Hid (∀ p,ff p=(isW (sgAt L p) [40] && f (p+2))):=fun p=>by rw [hff];show (isW (sgAt L p) [40] && us L F n 0 (p+2) s true)=_;rw [hf]
 have HU:Hid (∀ (p:Int) (W:World),ArgT W (some ⟨sb,off,none⟩) L→FlgA W g L.length F→ItV L p→2 * farN L p≤n→Calls Tryz.prog 112 #[.slice (some ⟨sb,off,none⟩) L.length cap,.slice (some ⟨g,0,none⟩) L.length fc,.int .i64 p,.string s,.bool true] W fun e w'=>e=.returned (.bool (f p))∧Below W.heap.size W w'):=fun p W hW hG hI hn=>by rw [← hf];exact hU p s true W hW hG hI hn
 clear hU hf hff
 obtain ⟨T,hT⟩:∃ T,(chainP L kk ((x:Int)+3)).any ff=T:=⟨_,rfl⟩
 have HT2:Hid ((chainP L kk ((x:Int)+3)).any ff=T):=hT
 rw [hT]
 clear hT
 generalize hR:(if inB X s then false else if T then true else if inB Y s then false else o4)=R
 have HR:Hid ((if inB X s then false else if T then true else if inB Y s then false else o4)=R):=hR
 clear hR
 generalize sgAt L ((x:Int))=y0 at s0 b40
 generalize sgAt L ((x:Int)+1)=y1 at s1 b_fn
 go_enter Tryz.func112,Tryz.ntmps112
 go_wp2_with fail
 refine HP.out.mono ?_
 rintro r w1 ⟨v,rfl,hN,hb1⟩
 have h1:=h.call hb1
 have hF1:=hF.call hb1
 clear HP
 go_wp2_with fail
 refine (l1At_own _ v X s _ hN hXl).mono ?_
 rintro r w2 ⟨y,rfl,hy,rfl⟩
 cases hq:inB X s
 ·have hy0:¬ 0≤y:=fun hh=>by
   have:=hy.mp hh
   rw [hq] at this
   cases this
  have HR1:Hid ((if T then true else if inB Y s then false else o4)=R):=(by rw [← HR.out,hq];rfl:(if T then true else if inB Y s then false else o4)=R)
  clear hy hq hN hXl HR
  go_wp2
  go_loopw [14] (fun v14 wr=>∃ (z m:Nat),v14=.int .i64 (z:Int)∧(x:Int)+3≤(z:Int)∧chainQ L m (z:Int) e7∧Below w.heap.size w wr∧Hid ((chainP L m (z:Int)).any ff=T)) (fun v14 _=>e7.toNat - (intOf v14).toNat)
  case atStart =>
   have hc3:((x+3:Nat):Int)=(x:Int)+3:=by omega
   exact ⟨x+3,kk,by go_num,by omega,by rw [hc3];exact c1,hb1,by rw [hc3];exact HT2.out⟩
  case round =>
   obtain ⟨z,m,rfl,hxz,hm,hB,HZ⟩:=hrel
   have hze:=chainQ_ends m _ hm c2
   have hAr:=h.call hB
   have hFr:=hF.call hB
   obtain ⟨sb',off',ha',sz,_⟩:=hAr.sg (i:=z) (by omega)
   injection ha' with ha'
   injection ha' with ea fa _
   subst ea
   subst fa
   cases m with
   | zero =>
    have ez:(z:Int)=e7:=hm
    have b41:((sgAt L (z:Int)).toList == [41])=true:=by rw [ez];exact c4
    have hTf:T=false:=by rw [← HZ.out];rfl
    have HR2:Hid ((if inB Y s then false else o4)=R):=(by rw [← HR1.out,hTf];rfl:(if inB Y s then false else o4)=R)
    clear hTf HR1
    clear HZ ez hm HU HFF HT2
    generalize sgAt L (z:Int)=yz at sz b41
    go_wp2_with fail
    refine (HD.out _ hAr).mono ?_
    rintro r w3 ⟨v3,rfl,hN3,hb3⟩
    have hB3:=bstep hB hb3
    go_wp2_with fail
    refine (l1At_own _ v3 Y s _ hN3 hYl).mono ?_
    rintro r w4 ⟨y3,rfl,hy3,rfl⟩
    cases hq3:inB Y s
    ·have hy30:¬ 0≤y3:=fun hh=>by
      have:=hy3.mp hh
      rw [hq3] at this
      cases this
     have HQ:Hid (R=o4):=(by rw [← HR2.out,hq3];rfl:R=o4)
     clear hy3 hq3
     go_wp2_with fail
     refine (HC.out _ (h.call hB3) (hF.call hB3)).mono ?_
     rintro r w8 ⟨rfl,hb8⟩
     go_wp2
     go_ret
     exact ⟨by rw [HQ.out];rfl,bstep hB3 hb8⟩
    ·have hy30:0≤y3:=hy3.mpr hq3
     have HQ:Hid (R=false):=(by rw [← HR2.out,hq3];rfl:R=false)
     clear hy3 hq3
     go_wp2
     go_ret
     exact ⟨by rw [HQ.out];rfl,hB3⟩
   | succ m =>
    obtain ⟨hp,hm2⟩:=hm
    obtain ⟨p0,p1,hpp⟩:=par_at hp
    have hpe:=par_ends hp
    have hq:=chainQ_ends m _ hm2 c2
    have b41:((sgAt L (z:Int)).toList == [41])=false:=par_not41 hp
    have HZx:Hid ((ff (z:Int) || (chainP L m (itemE L (z:Int))).any ff)=T):=HZ.out
    have HFz:=HFF.out (z:Int)
    clear HZ
    obtain ⟨z2,hz2⟩:∃ z2:Nat,itemE L (z:Int)=(z2:Int):=⟨(itemE L (z:Int)).toNat,by omega⟩
    have HZ2:Hid (itemE L (z:Int)=(z2:Int)):=hz2
    rw [hz2] at HZx hm2 hpe hq hpp
    clear hz2
    rcases hpp with ⟨r1,r2,r3,r4,r5⟩ | ⟨r1,r2,r3⟩
    ·have b40z:((sgAt L (z:Int)).toList == [40])=true:=r1
     have r4e:=r4.ends
     have hfz:=far_lt (L:=L) (i:=(x:Int)) (j:=(z:Int)+2) hve.1 (by omega) (by omega)
     have HCz:Hid (∀ (W:World),ArgT W (some ⟨sb,off,none⟩) L→FlgA W g L.length F→Calls Tryz.prog 112 #[.slice (some ⟨sb,off,none⟩) L.length cap,.slice (some ⟨g,0,none⟩) L.length fc,.int .i64 ((z:Int)+2),.string s,.bool true] W fun e w'=>e=.returned (.bool (f ((z:Int)+2)))∧Below W.heap.size W w'):=fun W hW hG=>HU.out _ W hW hG r4 (by omega)
     rw [r1,Bool.true_and] at HFz
     rw [HFz] at HZx
     clear r5 HFz r1
     generalize f ((z:Int)+2)=o at HCz HZx
     generalize sgAt L (z:Int)=yz at sz b41 b40z
     go_wp2_with fail
     refine (HCz.out _ hAr hFr).mono ?_
     rintro r w3 ⟨rfl,hb3⟩
     have hB3:=bstep hB hb3
     clear HCz
     cases o
     ·go_wp2_with fail
      refine (itemEndS_any _ cap L (z:Int) _ (h.call hB3) (by omega) ⟨by omega,by omega⟩).mono ?_
      rintro r w4 ⟨rfl,hb4⟩
      rw [HZ2.out]
      go_wp2
      go_roundw
      case rel=>exact ⟨z2,m,rfl,by omega,hm2,bstep hB3 hb4,HZx.out⟩
      case measure=>simp [intOf];omega
     ·have hTt:T=true:=HZx.out.symm
      have HQ:Hid (R=true):=(by rw [← HR1.out,hTt];rfl:R=true)
      go_wp2
      go_ret
      exact ⟨by rw [HQ.out];rfl,hB3⟩
    ·have b40z:((sgAt L (z:Int)).toList == [40])=false:=r1
     rw [r1,Bool.false_and] at HFz
     rw [HFz] at HZx
     clear HFz r1 r3
     generalize sgAt L (z:Int)=yz at sz b41 b40z
     go_wp2_with fail
     refine (itemEndS_any _ cap L (z:Int) _ hAr (by omega) ⟨by omega,by omega⟩).mono ?_
     rintro r w4 ⟨rfl,hb4⟩
     rw [HZ2.out]
     go_wp2
     go_roundw
     case rel=>exact ⟨z2,m,rfl,by omega,hm2,bstep hB hb4,HZx.out⟩
     case measure=>simp [intOf];omega
 ·have hy0:0≤y:=hy.mpr hq
  have HQ:Hid (R=false):=(by rw [← HR.out,hq];rfl:R=false)
  clear hy hq
  go_wp2
  go_ret
  exact ⟨by rw [HQ.out];rfl,hb1⟩
set_option maxRecDepth 100000 in
set_option maxHeartbeats 4000000 in
theorem l17Uses_any (hU:UseC a cap L g fc F n) (hA:AnyC a cap L g fc F n) (hL:L.length≤2000):UseC a cap L g fc F (n+1):=by
 intro i s fn w h hF hv hn
 have hve:=hv.ends
 obtain ⟨x,rfl⟩:∃ x:Nat,i=(x:Int):=⟨i.toNat,by omega⟩
 show Calls Tryz.prog 112 _ w fun e w'=>e=.returned (.bool (usI L F (us L F n) (x:Int) s fn))∧Below w.heap.size w w'
 unfold usI
 cases ho:isW (sgAt L (x:Int)) [40]
 ·rw [if_pos rfl]
  exact use_leaf x s fn w h hv ho
 rw [if_neg (by decide)]
 have hx1:x+1 < L.length:=by
  obtain ⟨m,e,hc,he0,hel,he,hit⟩:=item_parts ho (by omega:0≤itemE L (x:Int))
  have hk:=chI_ends m _ hc he0
  omega
 cases h_fn:isW (sgAt L ((x:Int)+1)) [102,110]
 rotate_left
 ·rw [if_pos rfl]
  exact use_fn hU hA hL x s fn w h hF hv hn ho h_fn
 rw [if_neg (by decide)]
 cases h_do:isW (sgAt L ((x:Int)+1)) [100,111]
 rotate_left
 ·rw [if_pos rfl]
  exact use_do hU hA hL x s fn w h hF hv hn ho h_do
 rw [if_neg (by decide)]
 cases h_let:isW (sgAt L ((x:Int)+1)) [108,101,116]
 rotate_left
 ·rw [Bool.true_or,if_pos rfl]
  exact use_let hU hA hL x s fn w h hF hv hn ho h_let
 cases h_hget:isW (sgAt L ((x:Int)+1)) [104,103,101,116]
 rotate_left
 ·rw [Bool.true_or,Bool.or_true,if_pos rfl]
  exact use_hget hU hA hL x s fn w h hF hv hn ho h_hget
 cases h_hput:isW (sgAt L ((x:Int)+1)) [104,112,117,116]
 rotate_left
 ·rw [Bool.or_true,Bool.or_true,if_pos rfl]
  exact use_hput hU hA hL x s fn w h hF hv hn ho h_hput
 rw [Bool.or_false,Bool.or_false,if_neg (by decide)]
 cases h_set:isW (sgAt L ((x:Int)+1)) [115,101,116]
 rotate_left
 ·rw [if_pos rfl]
  exact use_set hU hA hL x s fn w h hF hv hn ho h_set
 rw [if_neg (by decide)]
 cases h_take:isW (sgAt L ((x:Int)+1)) [116,97,107,101]
 rotate_left
 ·rw [if_pos rfl]
  exact use_take hU hA hL x s fn w h hF hv hn ho h_take
 rw [if_neg (by decide)]
 cases h_hidden:isW (sgAt L ((x:Int)+1)) [104,105,100,100,101,110]
 rotate_left
 ·rw [Bool.true_or,if_pos rfl]
  exact use_hidden hL x s fn w h ho h_hidden hx1
 cases h_vars:isW (sgAt L ((x:Int)+1)) [118,97,114,115]
 rotate_left
 ·rw [Bool.or_true,if_pos rfl]
  exact use_vars hL x s fn w h ho h_vars hx1
 rw [Bool.or_false,if_neg (by decide)]
 cases h_for:isW (sgAt L ((x:Int)+1)) [102,111,114]
 rotate_left
 ·rw [if_pos rfl]
  exact use_for hU hA hL x s fn w h hF hv hn ho h_for
 rw [if_neg (by decide)]
 exact use_else hU hA hL x s fn w h hF hv hn ho h_fn h_do h_let h_hget h_hput h_set h_take h_hidden h_vars h_for
end
theorem uses_any {a:Option Addr} {cap:Nat} {L:List ByteArray} {g fc:Nat} {F:Nat→Bool} (hL:L.length≤2000):∀ n,UseC a cap L g fc F n∧AnyC a cap L g fc F n
 | 0=>⟨fun i s fn w _ _ hv hn=>absurd hn (by have:=far_pos (L:=L) hv.ends.1 (by have:=hv.ends;omega);omega),fun i e k s fn w _ _ _ _ _ _ hn=>absurd hn (by omega)⟩
 | n+1=>⟨l17Uses_any (uses_any hL n).1 (uses_any hL n).2 hL,l17Any_any (uses_any hL n).1 hL⟩
end Go.Proofs.YtdgihicpjonjgaaGreatDoor
namespace Go.Proofs.YtdgihicpjonjgaaGreatDoor
open Go.RowKit
noncomputable def keptB (L:List ByteArray) (F:Nat→Bool) (i:Int):Bool:=(decN L (i+2)).any fun s=>us L F (2 * L.length+10) 1 (i+2) s false
theorem OwnN.txt {w:World} {B g n cp:Nat} {X:List ByteArray} (h:OwnN w B (.slice (some ⟨g,0,none⟩) n cp) X):Txt g 0 X w:=fun i hi=>by
 have:=h.cells i (.string X[i]) (by simp [hi])
 by_cases h0:i=0
 ·subst h0
  simpa [Addr.add] using this
 ·simpa [Addr.add,h0] using this
set_option maxHeartbeats 2000000 in
theorem l17Kept_any (a:Option Addr) (cap:Nat) (L:List ByteArray) (g fc:Nat) (F:Nat→Bool) (x:Nat) (w:World) (h:ArgT w a L) (hF:FlgA w g L.length F) (hL:L.length≤2000) (hv:ItV L (x:Int)) (ho:isW (sgAt L (x:Int)) [40]=true) (hw:isW (sgAt L ((x:Int)+1)) [100,111]=true) :
  Calls Tryz.prog 37 #[.slice a L.length cap,.slice (some ⟨g,0,none⟩) L.length fc,.int .i64 (x:Int)] w fun e w'=>e=.returned (.bool (keptB L F (x:Int)))∧Below w.heap.size w w':=by
 have hve:=hv.ends
 obtain ⟨k,e,q1d,q2,q3⟩:=hv.deeds ho hw
 have qe:=sgAt_shut q2
 have qc:=chain_ends k _ q1d qe.1
 have q1:=(chain_deeds k _ q1d).1
 have hdc:=dec_chain q1d qe.1 (by omega) (endB_shut q2)
 have hdl:=decN_len q1d qe.1 (by omega) (endB_shut q2)
 have hft:=far_top L ((x:Int)+2)
 have HC:Hid (∀ (s:ByteArray) (W:World),ArgT W a L→FlgA W g L.length F→Calls Tryz.prog 62 #[.slice a L.length cap,.slice (some ⟨g,0,none⟩) L.length fc,.int .i64 ((x:Int)+2),.string s,.bool false] W fun e w'=>e=.returned (.bool (us L F (2 * L.length+10) 1 ((x:Int)+2) s false))∧Below W.heap.size W w'):=fun s W hW hG=>(uses_any hL _).2 _ e k s false W hW hG q1 qe.1 (by omega) (endB_shut q2) (by omega)
 have HD:Hid (Calls Tryz.prog 58 #[.slice a L.length cap,.int .i64 ((x:Int)+2),.bool false] w fun r w'=>∃ v,r=.returned v∧OwnN w' w.heap.size v (decN L ((x:Int)+2))∧Below w.heap.size w w'):=by
  have:=l5Declared_false _ cap L k _ e w h (by omega) (by omega) (by omega) qe.1 (endB_shut q2) q1d
  rw [hdc] at this
  exact this
 have hXl:(decN L ((x:Int)+2)).length≤5000000:=by omega
 unfold keptB
 obtain ⟨f,hf⟩:∃ f:ByteArray→Bool,f=fun s=>us L F (2 * L.length+10) 1 ((x:Int)+2) s false:=⟨_,rfl⟩
 rw [← hf]
 have HC2:Hid (∀ (s:ByteArray) (W:World),ArgT W a L→FlgA W g L.length F→Calls Tryz.prog 62 #[.slice a L.length cap,.slice (some ⟨g,0,none⟩) L.length fc,.int .i64 ((x:Int)+2),.string s,.bool false] W fun e w'=>e=.returned (.bool (f s))∧Below W.heap.size W w'):=by
  rw [hf]
  exact HC.out
 clear HC hf hdc hdl
 generalize decN L ((x:Int)+2)=X at HD hXl ⊢
 obtain ⟨T,hT⟩:∃ T,X.any f=T:=⟨_,rfl⟩
 have HT:Hid (X.any f=T):=hT
 rw [hT]
 clear hT
 go_enter Tryz.func37,Tryz.ntmps37
 go_wp2_with fail
 refine HD.out.mono ?_
 rintro r w1 ⟨v,rfl,hN,hb1⟩
 clear HD
 obtain ⟨gx,cp,rfl⟩:=hN.shape
 have hgx:=hN.txt
 have hgz:gx < w1.heap.size:=(World.ownsRow.lt hN.1 gx (by simp [Value.ownBlock])).2
 go_wp2
 go_loopw [8] (fun v8 wr=>∃ k:Nat,k≤X.length∧v8=.int .i64 (k:Int)∧Below w1.heap.size w1 wr∧Hid ((X.drop k).any f=T)) (fun v8 _=>X.length - (intOf v8).toNat)
 case atStart=>exact ⟨0,Nat.zero_le _,rfl,Below.refl _ _,HT.out⟩
 case round =>
  obtain ⟨k,hk,rfl,hB,HK⟩:=hrel
  have hBB:=bstep hb1 hB
  by_cases hlt:k < X.length
  ·have hc:=(hB.cell (p:=⟨gx,0+k,none⟩) hgz).trans (hgx k hlt)
   have HK2:Hid ((f X[k] || (X.drop (k+1)).any f)=T):=(by rw [← HK.out,List.drop_eq_getElem_cons hlt];rfl:(f X[k] || (X.drop (k+1)).any f)=T)
   clear HK
   generalize X[k]=s at hc HK2
   have HCs:Hid (∀ (W:World),ArgT W a L→FlgA W g L.length F→Calls Tryz.prog 62 #[.slice a L.length cap,.slice (some ⟨g,0,none⟩) L.length fc,.int .i64 ((x:Int)+2),.string s,.bool false] W fun e w'=>e=.returned (.bool (f s))∧Below W.heap.size W w'):=HC2.out s
   generalize f s=o at HCs HK2
   rw [Nat.zero_add] at hc
   go_wp2_with fail
   refine (HCs.out _ (h.call hBB) (hF.call hBB)).mono ?_
   rintro r w2 ⟨rfl,hb2⟩
   have hB2:=bstep hB hb2
   cases o
   ·go_wp2
    go_roundw
    case rel=>exact ⟨k+1,by omega,by go_num,hB2,HK2.out⟩
    case measure=>simp [intOf];omega
   ·have hTt:T=true:=HK2.out.symm
    go_wp2
    go_ret
    exact ⟨by rw [hTt];rfl,bstep hb1 hB2⟩
  ·have hTf:T=false:=by
    rw [← HK.out,List.drop_eq_nil_of_le (by omega)]
    rfl
   clear HK
   go_wp2
   go_ret
   exact ⟨by rw [hTf];rfl,hBB⟩
noncomputable def flg (L:List ByteArray):Nat→Nat→Bool
 | 0,_=>false
 | k+1,p=>if p+k+2=L.length then (doB L (p:Int) && keptB L (flg L k) (p:Int)) else flg L k p
theorem flg_low (L:List ByteArray):∀ k p,p+k+1 < L.length→flg L k p=false
 | 0,_,_=>rfl
 | k+1,p,h=>by
  show (if p+k+2=L.length then _ else flg L k p)=false
  rw [if_neg (by omega)]
  exact flg_low L k p (by omega)
noncomputable def flgs (L:List ByteArray):Nat→Bool:=flg L (L.length - 1)
def FlgF (w:World) (g n:Nat) (F:Nat→Bool):Prop:=FlgA w g n F∧∀ k,k < n→w.frozen? ⟨g,k,none⟩=false
theorem FlgF.call {w w':World} {g n:Nat} {F:Nat→Bool} (h:FlgF w g n F) (hb:Below w.heap.size w w'):FlgF w' g n F :=
 ⟨h.1.call hb,fun k hk=>(hb.frozen (p:=⟨g,k,none⟩) h.1.1).trans (h.2 k hk)⟩
theorem FlgF.set {w:World} {g n x:Nat} {F G:Nat→Bool} {b:Bool} (h:FlgF w g n F) (hx:x < n) (hG:∀ p,p < n→G p=if p=x then b else F p):FlgF (w.setCell ⟨g,x,none⟩ (.bool b)) g n G:=by
 refine ⟨⟨by simpa [World.setCell] using h.1.1,fun k hk=>?_⟩,fun k hk=>by simpa [go_sem] using h.2 k hk⟩
 rw [hG k hk]
 by_cases e:k=x
 ·subst e
  rw [if_pos rfl]
  exact World.cell?_setCell_same w _ _ (h.1.2 k hk)
 ·rw [if_neg e]
  exact (World.cell?_setCell_other w ⟨g,x,none⟩ ⟨g,k,none⟩ _ (fun hh=>e (by injection hh with _ h2 _;exact h2.symm))).trans (h.1.2 k hk)
theorem FlgF.same {w:World} {g n:Nat} {F G:Nat→Bool} (h:FlgF w g n F) (hG:∀ p,p < n→G p=F p):FlgF w g n G :=
 ⟨⟨h.1.1,fun k hk=>by rw [hG k hk];exact h.1.2 k hk⟩,h.2⟩
theorem flgF_new (w:World) (n:Nat):FlgF (w.alloc (.cells (madeCells #[Value.bool false] n) 4)) w.heap.size n (fun _=>false):=by
 refine ⟨⟨by simp,fun i hi=>?_⟩,fun i hi=>by simp [go_sem]⟩
 have e:(madeCells #[Value.bool false] n)[i]?=some (.bool false):=by
  rw [← Array.getElem?_toList,toList_madeCells_one]
  simp [hi]
 have hh:=heap_alloc_new w (.cells (madeCells #[Value.bool false] n) 4)
 simp only [World.cell?]
 rw [hh]
 exact e
theorem infoBo:(Tryz.prog.info? 4).map (fun i=>(i.zero,i.size,i.bytes))=some (some (.bool false),1,1):=by kernel_rfl
set_option maxHeartbeats 2000000 in
theorem l17Flags_any (a:Option Addr) (cap:Nat) (L:List ByteArray) (w:World) (h:ArgT w a L) (hp:playB L=true) :
  Calls Tryz.prog 23 #[.slice a L.length cap] w fun e w'=>e=.returned (.slice (some ⟨w.heap.size,0,none⟩) L.length L.length)∧FlgA w' w.heap.size L.length (flgs L)∧Below w.heap.size w w':=by
 have hL:=play_len hp
 have hmk:=run_make_row' (P:=Tryz.prog) 35 4 (.bool false) 1 Tryz.underlying35 infoBo rfl .i64 .i64 L.length (by omega) (by omega)
 go_enter Tryz.func23,Tryz.ntmps23
 go_wp2
 go_loopw [4] (fun v4 wr=>∃ k:Nat,v4=.int .i64 ((L.length:Int) - 2 - (k:Int))∧(k=0∨k+1≤L.length)∧FlgF wr w.heap.size L.length (flg L k)∧Below w.heap.size w wr) (fun v4 _=>(intOf v4+2).toNat)
 case atStart=>exact ⟨0,by go_num,Or.inl rfl,flgF_new w L.length,balloc (Below.refl _ _) _⟩
 case round =>
  obtain ⟨k,rfl,hk,hFl,hB⟩:=hrel
  by_cases hge:0≤(L.length:Int) - 2 - (k:Int)
  ·obtain ⟨x,hx⟩:∃ x:Nat,(L.length:Int) - 2 - (k:Int)=(x:Int):=⟨((L.length:Int) - 2 - (k:Int)).toNat,by omega⟩
   rw [hx]
   have hxk:x+k+2=L.length:=by omega
   have hA:=h.call hB
   obtain ⟨sb,off,rfl,s0,hsb⟩:=hA.sg (i:=x) (by omega)
   obtain ⟨sb1,off1,ha1,s1,_⟩:=hA.sg (i:=x+1) (by omega)
   injection ha1 with ha1
   injection ha1 with e1 f1 _
   subst e1
   subst f1
   rw [show ((x+1:Nat):Int)=(x:Int)+1 by omega] at s1
   have hN:((x:Int) - 1)=(L.length:Int) - 2 - ((k+1:Nat):Int):=by omega
   have HNO:Hid (doB L (x:Int)=false→FlgF wr w.heap.size L.length (flg L (k+1))):=fun hd=>hFl.same fun p _=>by
    show (if p+k+2=L.length then (doB L (p:Int) && keptB L (flg L k) (p:Int)) else flg L k p)=flg L k p
    split
    ·have:p=x:=by omega
     subst this
     rw [hd,flg_low L k p (by omega)]
     rfl
    ·rfl
   cases ho:isW (sgAt L (x:Int)) [40]
   ·have b40:((sgAt L (x:Int)).toList == [40])=false:=ho
    have hS:=HNO.out (by unfold doB;rw [ho];rfl)
    clear HNO
    generalize sgAt L (x:Int)=y0 at s0 b40
    go_wp2
    go_roundw
    case rel=>exact ⟨k+1,by rw [← hN];go_num,Or.inr (by omega),hS,hB⟩
    case measure=>simp [intOf];omega
   ·have b40:((sgAt L (x:Int)).toList == [40])=true:=ho
    cases hd:isW (sgAt L ((x:Int)+1)) [100,111]
    ·have bdo:((sgAt L ((x:Int)+1)).toList == [100,111])=false:=hd
     have hS:=HNO.out (by unfold doB;rw [hd,Bool.and_false])
     clear HNO
     generalize sgAt L (x:Int)=y0 at s0 b40
     generalize sgAt L ((x:Int)+1)=y1 at s1 bdo
     go_wp2
     go_roundw
     case rel=>exact ⟨k+1,by rw [← hN];go_num,Or.inr (by omega),hS,hB⟩
     case measure=>simp [intOf];omega
    ·have bdo:((sgAt L ((x:Int)+1)).toList == [100,111])=true:=hd
     have hv:ItV L (x:Int):=Or.inr (play_dv hp (dv_in hd (by decide)))
     have HC:Hid (Calls Tryz.prog 37 #[.slice (some ⟨sb,off,none⟩) L.length cap,.slice (some ⟨w.heap.size,0,none⟩) L.length L.length,.int .i64 (x:Int)] wr fun e w'=>e=.returned (.bool (keptB L (flg L k) (x:Int)))∧Below wr.heap.size wr w'):=l17Kept_any _ cap L _ _ (flg L k) x wr hA hFl.1 hL hv ho hd
     have HS:Hid (∀ W,FlgF W w.heap.size L.length (flg L k)→FlgF (W.setCell ⟨w.heap.size,x,none⟩ (.bool (keptB L (flg L k) (x:Int)))) w.heap.size L.length (flg L (k+1))):=fun W hW=>hW.set (by omega) fun p _=>by
      show (if p+k+2=L.length then (doB L (p:Int) && keptB L (flg L k) (p:Int)) else flg L k p)=_
      by_cases hpx:p=x
      ·subst hpx
       rw [if_pos (by omega),if_pos rfl]
       unfold doB
       rw [ho,hd]
       rfl
      ·rw [if_neg (by omega),if_neg hpx]
     clear HNO
     generalize keptB L (flg L k) (x:Int)=o at HC HS
     generalize sgAt L (x:Int)=y0 at s0 b40
     generalize sgAt L ((x:Int)+1)=y1 at s1 bdo
     go_wp2_with fail
     refine HC.out.mono ?_
     rintro r w2 ⟨rfl,hb2⟩
     have hF2:=hFl.call hb2
     have c2:=hF2.1.2 x (by omega)
     have z2:=hF2.2 x (by omega)
     have hB2:=bstep hB hb2
     have hS:=HS.out w2 hF2
     go_wp2
     go_roundw
     case rel=>exact ⟨k+1,by rw [← hN];go_num,Or.inr (by omega),hS,bset hB2 _ (Nat.le_refl _)⟩
     case measure=>simp [intOf];omega
  ·have HK:Hid (flg L k=flgs L):=(by
    unfold flgs
    congr 1
    omega:flg L k=flgs L)
   go_wp2
   go_ret
   exact ⟨rfl,by rw [← HK.out];exact hFl.1,hB⟩
end Go.Proofs.YtdgihicpjonjgaaGreatDoor
namespace Go.Proofs.YtdgihicpjonjgaaGreatDoor
open Go.RowKit
set_option maxHeartbeats 2000000 in
theorem l17Inner_any (a:Option Addr) (cap:Nat) (L:List ByteArray) (i k:Nat) (loop:Bool) (w:World) (h:ArgT w a L) (hL:L.length≤2000) (hi:i+1 < L.length) (hk:k < L.length) :
  Calls Tryz.prog 38 #[.slice a L.length cap,.int .i64 (i:Int),.int .i64 (k:Int),.bool loop] w fun e w'=>e=.returned (.bool (inrB L (i:Int) (k:Int) loop))∧Below w.heap.size w w':=by
 obtain ⟨sb,off,rfl,s1,hsb⟩:=h.sg (i:=i+1) (by omega)
 rw [show ((i+1:Nat):Int)=(i:Int)+1 by omega] at s1
 have z1:=itemE_ends L (i:Int)
 have z2:=itemE_ends L (k:Int)
 unfold Ends at z1 z2
 have HI1:Hid (∀ W:World,ArgT W (some ⟨sb,off,none⟩) L→Calls Tryz.prog 25 #[.slice (some ⟨sb,off,none⟩) L.length cap,.int .i64 (k:Int)] W fun e w'=>e=.returned (.int .i64 (itemE L (k:Int)))∧Below W.heap.size W w'):=fun W hW=>itemEndS_any _ cap L (k:Int) W hW (by omega) ⟨by omega,by omega⟩
 have HI2:Hid (∀ W:World,ArgT W (some ⟨sb,off,none⟩) L→Calls Tryz.prog 25 #[.slice (some ⟨sb,off,none⟩) L.length cap,.int .i64 (i:Int)] W fun e w'=>e=.returned (.int .i64 (itemE L (i:Int)))∧Below W.heap.size W w'):=fun W hW=>itemEndS_any _ cap L (i:Int) W hW (by omega) ⟨by omega,by omega⟩
 unfold inrB fnB lopB
 generalize itemE L (k:Int)=ek at *
 generalize itemE L (i:Int)=ei at *
 cases hf:isW (sgAt L ((i:Int)+1)) [102,110]
 ·have b_fn:((sgAt L ((i:Int)+1)).toList == [102,110])=false:=hf
  cases hw:isW (sgAt L ((i:Int)+1)) [119,104,105,108,101]
  ·have b_wh:((sgAt L ((i:Int)+1)).toList == [119,104,105,108,101])=false:=hw
   cases hr:isW (sgAt L ((i:Int)+1)) [102,111,114]
   ·have b_fo:((sgAt L ((i:Int)+1)).toList == [102,111,114])=false:=hr
    clear hf hw hr
    generalize sgAt L ((i:Int)+1)=y1 at s1 b_fn b_wh b_fo
    go_enter Tryz.func38,Tryz.ntmps38
    go_wp2
    go_ret
    exact ⟨rfl,Below.refl _ _⟩
   ·have b_fo:((sgAt L ((i:Int)+1)).toList == [102,111,114])=true:=hr
    clear hf hw hr
    generalize sgAt L ((i:Int)+1)=y1 at s1 b_fn b_wh b_fo
    go_enter Tryz.func38,Tryz.ntmps38
    go_wp2_with fail
    refine (HI1.out _ h).mono ?_
    rintro r w1 ⟨rfl,hb1⟩
    go_wp2_with fail
    refine (HI2.out _ (h.call hb1)).mono ?_
    rintro r w2 ⟨rfl,hb2⟩
    go_wp2
    go_ret
    exact ⟨rfl,bstep hb1 hb2⟩
  ·have b_wh:((sgAt L ((i:Int)+1)).toList == [119,104,105,108,101])=true:=hw
   clear hf hw
   generalize sgAt L ((i:Int)+1)=y1 at s1 b_fn b_wh
   go_enter Tryz.func38,Tryz.ntmps38
   go_wp2_with fail
   refine (HI1.out _ h).mono ?_
   rintro r w1 ⟨rfl,hb1⟩
   go_wp2_with fail
   refine (HI2.out _ (h.call hb1)).mono ?_
   rintro r w2 ⟨rfl,hb2⟩
   go_wp2
   go_ret
   exact ⟨rfl,bstep hb1 hb2⟩
 ·have b_fn:((sgAt L ((i:Int)+1)).toList == [102,110])=true:=hf
  clear hf
  generalize sgAt L ((i:Int)+1)=y1 at s1 b_fn
  go_enter Tryz.func38,Tryz.ntmps38
  go_wp2
  go_ret
  exact ⟨rfl,Below.refl _ _⟩
def g1 (_:Int):Int:=1
def gF (F:Nat→Bool) (p:Int):Int:=if F p.toNat then 1 else 0
theorem g1_le (p:Int):0≤g1 p∧g1 p≤1:=by unfold g1;omega
theorem gF_le (F:Nat→Bool) (p:Int):0≤gF F p∧gF F p≤1:=by unfold gF;split <;> omega
def DosC (a:Option Addr) (cap:Nat) (L:List ByteArray) (g fc:Nat) (F:Nat→Bool) (n:Nat):Prop:=∀ (i:Int) (loop:Bool) (W:World),ArgT W a L→FlgA W g L.length F→0≤itemE L i→farN L i≤n →
 Calls Tryz.prog 26 #[.slice a L.length cap,.slice (some ⟨g,0,none⟩) L.length fc,.int .i64 i,.bool loop] W fun e w'=>e=.returned (.tuple #[.int .i64 (dosF L g1 n i loop),.int .i64 (dosF L (gF F) n i loop)])∧Below W.heap.size W w'
set_option maxRecDepth 100000 in
set_option maxHeartbeats 4000000 in
theorem dos_no {a:Option Addr} {cap:Nat} {L:List ByteArray} {g fc:Nat} {F:Nat→Bool} {n:Nat} (hD:DosC a cap L g fc F n) (hL:L.length≤2000) (x:Nat) (w:World) (h:ArgT w a L) (hF:FlgA w g L.length F) (h0:0≤itemE L (x:Int)) (hn:farN L (x:Int)≤n+1) (ho:isW (sgAt L (x:Int)) [40]=true) :
  Calls Tryz.prog 26 #[.slice a L.length cap,.slice (some ⟨g,0,none⟩) L.length fc,.int .i64 (x:Int),.bool false] w fun e w'=>e=.returned (.tuple #[.int .i64 (dosF L g1 (n+1) (x:Int) false),.int .i64 (dosF L (gF F) (n+1) (x:Int) false)])∧Below w.heap.size w w':=by
 obtain ⟨mm,e,hc,he0,hel,he,hit⟩:=item_parts ho h0
 have hce:=chI_ends mm _ hc he0
 have hplc:=plc_chI hc he0 (by omega) (endB_shut he)
 obtain ⟨f1,hf1⟩:∃ f1:Int→Int,f1=fun k=>dosF L g1 n k (inrB L (x:Int) k false):=⟨_,rfl⟩
 obtain ⟨f2,hf2⟩:∃ f2:Int→Int,f2=fun k=>dosF L (gF F) n k (inrB L (x:Int) k false):=⟨_,rfl⟩
 obtain ⟨T1,hT1⟩:∃ T,dosF L g1 (n+1) (x:Int) false=T:=⟨_,rfl⟩
 obtain ⟨T2,hT2⟩:∃ T,dosF L (gF F) (n+1) (x:Int) false=T:=⟨_,rfl⟩
 have HT1:Hid (0+sumI ((chainP L mm ((x:Int)+1)).map f1)=T1):=(by
  rw [← hT1,hf1]
  show _=(if isW (sgAt L (x:Int)) [40]=false then 0 else _)
  rw [ho,if_neg (by decide),hplc]
  rfl:0+sumI ((chainP L mm ((x:Int)+1)).map f1)=T1)
 have HT2:Hid (0+sumI ((chainP L mm ((x:Int)+1)).map f2)=T2):=(by
  rw [← hT2,hf2]
  show _=(if isW (sgAt L (x:Int)) [40]=false then 0 else _)
  rw [ho,if_neg (by decide),hplc]
  rfl:0+sumI ((chainP L mm ((x:Int)+1)).map f2)=T2)
 have HC:Hid (∀ (k:Int) (W:World),ArgT W a L→FlgA W g L.length F→0≤itemE L k→farN L k≤n→Calls Tryz.prog 26 #[.slice a L.length cap,.slice (some ⟨g,0,none⟩) L.length fc,.int .i64 k,.bool (inrB L (x:Int) k false)] W fun e w'=>e=.returned (.tuple #[.int .i64 (f1 k),.int .i64 (f2 k)])∧Below W.heap.size W w'):=fun k W hW hG hk hkn=>by
  rw [hf1,hf2]
  exact hD k _ W hW hG hk hkn
 have HLE:Hid (∀ k,0≤itemE L k→0≤f1 k∧f1 k≤itemE L k - k∧0≤f2 k∧f2 k≤itemE L k - k):=fun k hk=>by
  rw [hf1,hf2]
  have e1:=dos_le g1_le n k (inrB L (x:Int) k false) hk
  have e2:=dos_le (gF_le F) n k (inrB L (x:Int) k false) hk
  exact ⟨e1.1,e1.2,e2.1,e2.2⟩
 rw [hT1,hT2]
 obtain ⟨sb,off,rfl,s0,hsb⟩:=h.sg (i:=x) (by omega)
 have b40:((sgAt L (x:Int)).toList == [40])=true:=ho
 clear hD hT1 hT2 hf1 hf2 hplc
 generalize sgAt L (x:Int)=y0 at s0 b40
 go_enter Tryz.func26,Tryz.ntmps26
 go_wp2
 go_loopw [10,11,12,13,14] (fun v10 v11 v12 _ _ wr=>∃ (z m:Nat) (A B:Int),v10=.int .i64 A∧v11=.int .i64 B∧v12=.int .i64 (z:Int)∧(x:Int)+1≤(z:Int)∧chI L m (z:Int) e∧0≤A∧A≤(z:Int) - x∧0≤B∧B≤(z:Int) - x∧Below w.heap.size w wr∧Hid (A+sumI ((chainP L m (z:Int)).map f1)=T1)∧Hid (B+sumI ((chainP L m (z:Int)).map f2)=T2)) (fun _ _ v12 _ _ _=>e.toNat - (intOf v12).toNat)
 case atStart =>
  have hc1:((x+1:Nat):Int)=(x:Int)+1:=by omega
  exact ⟨x+1,mm,0,0,rfl,rfl,by go_num,by omega,by rw [hc1];exact hc,by omega,by omega,by omega,by omega,Below.refl _ _,by rw [hc1];exact HT1.out,by rw [hc1];exact HT2.out⟩
 case round =>
  obtain ⟨z,m,A,B,rfl,rfl,rfl,hxz,hm,hA0,hA1,hB0,hB1,hB,HS1,HS2⟩:=hrel
  have hze:=chI_ends m _ hm he0
  have hAr:=h.call hB
  obtain ⟨sbz,offz,haz,sz,_⟩:=hAr.sg (i:=z) (by omega)
  injection haz with haz
  injection haz with ez fz _
  subst ez
  subst fz
  cases m with
  | zero =>
   have eqz:(z:Int)=e:=hm
   have b41:((sgAt L (z:Int)).toList == [41])=true:=by rw [eqz];exact he
   have HE1:Hid (A=T1):=(by rw [← HS1.out];show A=A+0;omega:A=T1)
   have HE2:Hid (B=T2):=(by rw [← HS2.out];show B=B+0;omega:B=T2)
   clear HS1 HS2 eqz hm
   generalize sgAt L (z:Int)=yz at sz b41
   go_wp2
   go_ret2
   exact ⟨by rw [← HE1.out,← HE2.out];rfl,hB⟩
  | succ m =>
   obtain ⟨hz0,hm2⟩:=hm
   have hzu:=itemE_up hz0
   have hq:=chI_ends m _ hm2 he0
   have b41:((sgAt L (z:Int)).toList == [41])=false:=not41 hz0
   have HS1x:Hid (A+(f1 (z:Int)+sumI ((chainP L m (itemE L (z:Int))).map f1))=T1):=HS1.out
   have HS2x:Hid (B+(f2 (z:Int)+sumI ((chainP L m (itemE L (z:Int))).map f2))=T2):=HS2.out
   obtain ⟨hl1,hl2,hl3,hl4⟩:=HLE.out (z:Int) hz0
   have hfz:=far_lt (L:=L) (i:=(x:Int)) (j:=(z:Int)) (by omega) (by omega) (by omega)
   have HCz:Hid (∀ W:World,ArgT W (some ⟨sb,off,none⟩) L→FlgA W g L.length F→Calls Tryz.prog 26 #[.slice (some ⟨sb,off,none⟩) L.length cap,.slice (some ⟨g,0,none⟩) L.length fc,.int .i64 (z:Int),.bool (inrB L (x:Int) (z:Int) false)] W fun e w'=>e=.returned (.tuple #[.int .i64 (f1 (z:Int)),.int .i64 (f2 (z:Int))])∧Below W.heap.size W w'):=fun W hW hG=>HC.out (z:Int) W hW hG hz0 (by omega)
   have HIz:Hid (∀ W:World,ArgT W (some ⟨sb,off,none⟩) L→Calls Tryz.prog 38 #[.slice (some ⟨sb,off,none⟩) L.length cap,.int .i64 (x:Int),.int .i64 (z:Int),.bool false] W fun e w'=>e=.returned (.bool (inrB L (x:Int) (z:Int) false))∧Below W.heap.size W w'):=fun W hW=>l17Inner_any _ cap L x z false W hW hL (by omega) (by omega)
   clear HS1 HS2
   obtain ⟨z2,hz2⟩:∃ z2:Nat,itemE L (z:Int)=(z2:Int):=⟨(itemE L (z:Int)).toNat,by omega⟩
   have HZ2:Hid (itemE L (z:Int)=(z2:Int)):=hz2
   rw [hz2] at HS1x HS2x hm2 hzu hq hl2 hl4
   clear hz2
   generalize f1 (z:Int)=d1 at HCz HS1x hl1 hl2
   generalize f2 (z:Int)=d2 at HCz HS2x hl3 hl4
   generalize inrB L (x:Int) (z:Int) false=ib at HCz HIz
   generalize sgAt L (z:Int)=yz at sz b41
   go_wp2_with fail
   refine (HIz.out _ hAr).mono ?_
   rintro r w2 ⟨rfl,hb2⟩
   have hB2:=bstep hB hb2
   go_wp2_with fail
   refine (HCz.out _ (h.call hB2) (hF.call hB2)).mono ?_
   rintro r w3 ⟨rfl,hb3⟩
   have hB3:=bstep hB2 hb3
   go_wp2_with fail
   refine (itemEndS_any _ cap L (z:Int) _ (h.call hB3) (by omega) ⟨by omega,by omega⟩).mono ?_
   rintro r w4 ⟨rfl,hb4⟩
   rw [HZ2.out]
   go_wp2
   go_roundw
   case rel=>exact ⟨z2,m,A+d1,B+d2,by go_num,by go_num,rfl,by omega,hm2,by omega,by omega,by omega,by omega,bstep hB3 hb4,by rw [← HS1x.out];show _=_;omega,by rw [← HS2x.out];show _=_;omega⟩
   case measure=>simp [intOf];omega
set_option maxRecDepth 100000 in
set_option maxHeartbeats 4000000 in
theorem dos_not {a:Option Addr} {cap:Nat} {L:List ByteArray} {g fc:Nat} {F:Nat→Bool} {n:Nat} (hD:DosC a cap L g fc F n) (hL:L.length≤2000) (x:Nat) (w:World) (h:ArgT w a L) (hF:FlgA w g L.length F) (h0:0≤itemE L (x:Int)) (hn:farN L (x:Int)≤n+1) (ho:isW (sgAt L (x:Int)) [40]=true) (hd:isW (sgAt L ((x:Int)+1)) [100,111]=false) :
  Calls Tryz.prog 26 #[.slice a L.length cap,.slice (some ⟨g,0,none⟩) L.length fc,.int .i64 (x:Int),.bool true] w fun e w'=>e=.returned (.tuple #[.int .i64 (dosF L g1 (n+1) (x:Int) true),.int .i64 (dosF L (gF F) (n+1) (x:Int) true)])∧Below w.heap.size w w':=by
 obtain ⟨mm,e,hc,he0,hel,he,hit⟩:=item_parts ho h0
 have hce:=chI_ends mm _ hc he0
 have hplc:=plc_chI hc he0 (by omega) (endB_shut he)
 obtain ⟨f1,hf1⟩:∃ f1:Int→Int,f1=fun k=>dosF L g1 n k (inrB L (x:Int) k true):=⟨_,rfl⟩
 obtain ⟨f2,hf2⟩:∃ f2:Int→Int,f2=fun k=>dosF L (gF F) n k (inrB L (x:Int) k true):=⟨_,rfl⟩
 obtain ⟨T1,hT1⟩:∃ T,dosF L g1 (n+1) (x:Int) true=T:=⟨_,rfl⟩
 obtain ⟨T2,hT2⟩:∃ T,dosF L (gF F) (n+1) (x:Int) true=T:=⟨_,rfl⟩
 have HT1:Hid (0+sumI ((chainP L mm ((x:Int)+1)).map f1)=T1):=(by
  rw [← hT1,hf1]
  show _=(if isW (sgAt L (x:Int)) [40]=false then 0 else _)
  rw [ho,if_neg (by decide),hplc,hd]
  rfl:0+sumI ((chainP L mm ((x:Int)+1)).map f1)=T1)
 have HT2:Hid (0+sumI ((chainP L mm ((x:Int)+1)).map f2)=T2):=(by
  rw [← hT2,hf2]
  show _=(if isW (sgAt L (x:Int)) [40]=false then 0 else _)
  rw [ho,if_neg (by decide),hplc,hd]
  rfl:0+sumI ((chainP L mm ((x:Int)+1)).map f2)=T2)
 have HC:Hid (∀ (k:Int) (W:World),ArgT W a L→FlgA W g L.length F→0≤itemE L k→farN L k≤n→Calls Tryz.prog 26 #[.slice a L.length cap,.slice (some ⟨g,0,none⟩) L.length fc,.int .i64 k,.bool (inrB L (x:Int) k true)] W fun e w'=>e=.returned (.tuple #[.int .i64 (f1 k),.int .i64 (f2 k)])∧Below W.heap.size W w'):=fun k W hW hG hk hkn=>by
  rw [hf1,hf2]
  exact hD k _ W hW hG hk hkn
 have HLE:Hid (∀ k,0≤itemE L k→0≤f1 k∧f1 k≤itemE L k - k∧0≤f2 k∧f2 k≤itemE L k - k):=fun k hk=>by
  rw [hf1,hf2]
  have e1:=dos_le g1_le n k (inrB L (x:Int) k true) hk
  have e2:=dos_le (gF_le F) n k (inrB L (x:Int) k true) hk
  exact ⟨e1.1,e1.2,e2.1,e2.2⟩
 rw [hT1,hT2]
 obtain ⟨sb,off,rfl,s0,hsb⟩:=h.sg (i:=x) (by omega)
 have b40:((sgAt L (x:Int)).toList == [40])=true:=ho
 obtain ⟨sb1,off1,ha1,s1,_⟩:=h.sg (i:=x+1) (by omega)
 injection ha1 with ha1
 injection ha1 with e1 f1' _
 subst e1
 subst f1'
 rw [show ((x+1:Nat):Int)=(x:Int)+1 by omega] at s1
 have b_do:((sgAt L ((x:Int)+1)).toList == [100,111])=false:=hd
 clear hD hT1 hT2 hf1 hf2 hplc hd
 generalize sgAt L (x:Int)=y0 at s0 b40
 generalize sgAt L ((x:Int)+1)=y1 at s1 b_do
 go_enter Tryz.func26,Tryz.ntmps26
 go_wp2
 go_loopw [10,11,12,13,14] (fun v10 v11 v12 _ _ wr=>∃ (z m:Nat) (A B:Int),v10=.int .i64 A∧v11=.int .i64 B∧v12=.int .i64 (z:Int)∧(x:Int)+1≤(z:Int)∧chI L m (z:Int) e∧0≤A∧A≤(z:Int) - x∧0≤B∧B≤(z:Int) - x∧Below w.heap.size w wr∧Hid (A+sumI ((chainP L m (z:Int)).map f1)=T1)∧Hid (B+sumI ((chainP L m (z:Int)).map f2)=T2)) (fun _ _ v12 _ _ _=>e.toNat - (intOf v12).toNat)
 case atStart =>
  have hc1:((x+1:Nat):Int)=(x:Int)+1:=by omega
  exact ⟨x+1,mm,0,0,rfl,rfl,by go_num,by omega,by rw [hc1];exact hc,by omega,by omega,by omega,by omega,Below.refl _ _,by rw [hc1];exact HT1.out,by rw [hc1];exact HT2.out⟩
 case round =>
  obtain ⟨z,m,A,B,rfl,rfl,rfl,hxz,hm,hA0,hA1,hB0,hB1,hB,HS1,HS2⟩:=hrel
  have hze:=chI_ends m _ hm he0
  have hAr:=h.call hB
  obtain ⟨sbz,offz,haz,sz,_⟩:=hAr.sg (i:=z) (by omega)
  injection haz with haz
  injection haz with ez fz _
  subst ez
  subst fz
  cases m with
  | zero =>
   have eqz:(z:Int)=e:=hm
   have b41:((sgAt L (z:Int)).toList == [41])=true:=by rw [eqz];exact he
   have HE1:Hid (A=T1):=(by rw [← HS1.out];show A=A+0;omega:A=T1)
   have HE2:Hid (B=T2):=(by rw [← HS2.out];show B=B+0;omega:B=T2)
   clear HS1 HS2 eqz hm
   generalize sgAt L (z:Int)=yz at sz b41
   go_wp2
   go_ret2
   exact ⟨by rw [← HE1.out,← HE2.out];rfl,hB⟩
  | succ m =>
   obtain ⟨hz0,hm2⟩:=hm
   have hzu:=itemE_up hz0
   have hq:=chI_ends m _ hm2 he0
   have b41:((sgAt L (z:Int)).toList == [41])=false:=not41 hz0
   have HS1x:Hid (A+(f1 (z:Int)+sumI ((chainP L m (itemE L (z:Int))).map f1))=T1):=HS1.out
   have HS2x:Hid (B+(f2 (z:Int)+sumI ((chainP L m (itemE L (z:Int))).map f2))=T2):=HS2.out
   obtain ⟨hl1,hl2,hl3,hl4⟩:=HLE.out (z:Int) hz0
   have hfz:=far_lt (L:=L) (i:=(x:Int)) (j:=(z:Int)) (by omega) (by omega) (by omega)
   have HCz:Hid (∀ W:World,ArgT W (some ⟨sb,off,none⟩) L→FlgA W g L.length F→Calls Tryz.prog 26 #[.slice (some ⟨sb,off,none⟩) L.length cap,.slice (some ⟨g,0,none⟩) L.length fc,.int .i64 (z:Int),.bool (inrB L (x:Int) (z:Int) true)] W fun e w'=>e=.returned (.tuple #[.int .i64 (f1 (z:Int)),.int .i64 (f2 (z:Int))])∧Below W.heap.size W w'):=fun W hW hG=>HC.out (z:Int) W hW hG hz0 (by omega)
   have HIz:Hid (∀ W:World,ArgT W (some ⟨sb,off,none⟩) L→Calls Tryz.prog 38 #[.slice (some ⟨sb,off,none⟩) L.length cap,.int .i64 (x:Int),.int .i64 (z:Int),.bool true] W fun e w'=>e=.returned (.bool (inrB L (x:Int) (z:Int) true))∧Below W.heap.size W w'):=fun W hW=>l17Inner_any _ cap L x z true W hW hL (by omega) (by omega)
   clear HS1 HS2
   obtain ⟨z2,hz2⟩:∃ z2:Nat,itemE L (z:Int)=(z2:Int):=⟨(itemE L (z:Int)).toNat,by omega⟩
   have HZ2:Hid (itemE L (z:Int)=(z2:Int)):=hz2
   rw [hz2] at HS1x HS2x hm2 hzu hq hl2 hl4
   clear hz2
   generalize f1 (z:Int)=d1 at HCz HS1x hl1 hl2
   generalize f2 (z:Int)=d2 at HCz HS2x hl3 hl4
   generalize inrB L (x:Int) (z:Int) true=ib at HCz HIz
   generalize sgAt L (z:Int)=yz at sz b41
   go_wp2_with fail
   refine (HIz.out _ hAr).mono ?_
   rintro r w2 ⟨rfl,hb2⟩
   have hB2:=bstep hB hb2
   go_wp2_with fail
   refine (HCz.out _ (h.call hB2) (hF.call hB2)).mono ?_
   rintro r w3 ⟨rfl,hb3⟩
   have hB3:=bstep hB2 hb3
   go_wp2_with fail
   refine (itemEndS_any _ cap L (z:Int) _ (h.call hB3) (by omega) ⟨by omega,by omega⟩).mono ?_
   rintro r w4 ⟨rfl,hb4⟩
   rw [HZ2.out]
   go_wp2
   go_roundw
   case rel=>exact ⟨z2,m,A+d1,B+d2,by go_num,by go_num,rfl,by omega,hm2,by omega,by omega,by omega,by omega,bstep hB3 hb4,by rw [← HS1x.out];show _=_;omega,by rw [← HS2x.out];show _=_;omega⟩
   case measure=>simp [intOf];omega
set_option maxRecDepth 100000 in
set_option maxHeartbeats 4000000 in
theorem dos_do {a:Option Addr} {cap:Nat} {L:List ByteArray} {g fc:Nat} {F:Nat→Bool} {n:Nat} (hD:DosC a cap L g fc F n) (hL:L.length≤2000) (x:Nat) (w:World) (h:ArgT w a L) (hF:FlgA w g L.length F) (h0:0≤itemE L (x:Int)) (hn:farN L (x:Int)≤n+1) (ho:isW (sgAt L (x:Int)) [40]=true) (hd:isW (sgAt L ((x:Int)+1)) [100,111]=true) (hf:F x=false) :
  Calls Tryz.prog 26 #[.slice a L.length cap,.slice (some ⟨g,0,none⟩) L.length fc,.int .i64 (x:Int),.bool true] w fun e w'=>e=.returned (.tuple #[.int .i64 (dosF L g1 (n+1) (x:Int) true),.int .i64 (dosF L (gF F) (n+1) (x:Int) true)])∧Below w.heap.size w w':=by
 obtain ⟨mm,e,hc,he0,hel,he,hit⟩:=item_parts ho h0
 have hce:=chI_ends mm _ hc he0
 have hplc:=plc_chI hc he0 (by omega) (endB_shut he)
 obtain ⟨f1,hf1⟩:∃ f1:Int→Int,f1=fun k=>dosF L g1 n k (inrB L (x:Int) k true):=⟨_,rfl⟩
 obtain ⟨f2,hf2⟩:∃ f2:Int→Int,f2=fun k=>dosF L (gF F) n k (inrB L (x:Int) k true):=⟨_,rfl⟩
 obtain ⟨T1,hT1⟩:∃ T,dosF L g1 (n+1) (x:Int) true=T:=⟨_,rfl⟩
 obtain ⟨T2,hT2⟩:∃ T,dosF L (gF F) (n+1) (x:Int) true=T:=⟨_,rfl⟩
 have HT1:Hid (1+sumI ((chainP L mm ((x:Int)+1)).map f1)=T1):=(by
  rw [← hT1,hf1]
  show _=(if isW (sgAt L (x:Int)) [40]=false then 0 else _)
  rw [ho,if_neg (by decide),hplc,hd]
  rfl:1+sumI ((chainP L mm ((x:Int)+1)).map f1)=T1)
 have HT2:Hid (0+sumI ((chainP L mm ((x:Int)+1)).map f2)=T2):=(by
  rw [← hT2,hf2]
  show _=(if isW (sgAt L (x:Int)) [40]=false then 0 else _)
  rw [ho,if_neg (by decide),hplc,hd]
  show _=(if F ((x:Int)).toNat then (1:Int) else 0)+_
  rw [Int.toNat_natCast,hf]
  rfl:0+sumI ((chainP L mm ((x:Int)+1)).map f2)=T2)
 have HC:Hid (∀ (k:Int) (W:World),ArgT W a L→FlgA W g L.length F→0≤itemE L k→farN L k≤n→Calls Tryz.prog 26 #[.slice a L.length cap,.slice (some ⟨g,0,none⟩) L.length fc,.int .i64 k,.bool (inrB L (x:Int) k true)] W fun e w'=>e=.returned (.tuple #[.int .i64 (f1 k),.int .i64 (f2 k)])∧Below W.heap.size W w'):=fun k W hW hG hk hkn=>by
  rw [hf1,hf2]
  exact hD k _ W hW hG hk hkn
 have HLE:Hid (∀ k,0≤itemE L k→0≤f1 k∧f1 k≤itemE L k - k∧0≤f2 k∧f2 k≤itemE L k - k):=fun k hk=>by
  rw [hf1,hf2]
  have e1:=dos_le g1_le n k (inrB L (x:Int) k true) hk
  have e2:=dos_le (gF_le F) n k (inrB L (x:Int) k true) hk
  exact ⟨e1.1,e1.2,e2.1,e2.2⟩
 rw [hT1,hT2]
 obtain ⟨sb,off,rfl,s0,hsb⟩:=h.sg (i:=x) (by omega)
 have b40:((sgAt L (x:Int)).toList == [40])=true:=ho
 obtain ⟨sb1,off1,ha1,s1,_⟩:=h.sg (i:=x+1) (by omega)
 injection ha1 with ha1
 injection ha1 with e1 f1' _
 subst e1
 subst f1'
 rw [show ((x+1:Nat):Int)=(x:Int)+1 by omega] at s1
 have b_do:((sgAt L ((x:Int)+1)).toList == [100,111])=true:=hd
 have c1:=hF.2 x (by omega)
 rw [hf] at c1
 clear hD hT1 hT2 hf1 hf2 hplc hd
 generalize sgAt L (x:Int)=y0 at s0 b40
 generalize sgAt L ((x:Int)+1)=y1 at s1 b_do
 go_enter Tryz.func26,Tryz.ntmps26
 go_wp2
 go_loopw [10,11,12,13,14] (fun v10 v11 v12 _ _ wr=>∃ (z m:Nat) (A B:Int),v10=.int .i64 A∧v11=.int .i64 B∧v12=.int .i64 (z:Int)∧(x:Int)+1≤(z:Int)∧chI L m (z:Int) e∧0≤A∧A≤(z:Int) - x∧0≤B∧B≤(z:Int) - x∧Below w.heap.size w wr∧Hid (A+sumI ((chainP L m (z:Int)).map f1)=T1)∧Hid (B+sumI ((chainP L m (z:Int)).map f2)=T2)) (fun _ _ v12 _ _ _=>e.toNat - (intOf v12).toNat)
 case atStart =>
  have hc1:((x+1:Nat):Int)=(x:Int)+1:=by omega
  exact ⟨x+1,mm,1,0,rfl,rfl,by go_num,by omega,by rw [hc1];exact hc,by omega,by omega,by omega,by omega,Below.refl _ _,by rw [hc1];exact HT1.out,by rw [hc1];exact HT2.out⟩
 case round =>
  obtain ⟨z,m,A,B,rfl,rfl,rfl,hxz,hm,hA0,hA1,hB0,hB1,hB,HS1,HS2⟩:=hrel
  have hze:=chI_ends m _ hm he0
  have hAr:=h.call hB
  obtain ⟨sbz,offz,haz,sz,_⟩:=hAr.sg (i:=z) (by omega)
  injection haz with haz
  injection haz with ez fz _
  subst ez
  subst fz
  cases m with
  | zero =>
   have eqz:(z:Int)=e:=hm
   have b41:((sgAt L (z:Int)).toList == [41])=true:=by rw [eqz];exact he
   have HE1:Hid (A=T1):=(by rw [← HS1.out];show A=A+0;omega:A=T1)
   have HE2:Hid (B=T2):=(by rw [← HS2.out];show B=B+0;omega:B=T2)
   clear HS1 HS2 eqz hm
   generalize sgAt L (z:Int)=yz at sz b41
   go_wp2
   go_ret2
   exact ⟨by rw [← HE1.out,← HE2.out];rfl,hB⟩
  | succ m =>
   obtain ⟨hz0,hm2⟩:=hm
   have hzu:=itemE_up hz0
   have hq:=chI_ends m _ hm2 he0
   have b41:((sgAt L (z:Int)).toList == [41])=false:=not41 hz0
   have HS1x:Hid (A+(f1 (z:Int)+sumI ((chainP L m (itemE L (z:Int))).map f1))=T1):=HS1.out
   have HS2x:Hid (B+(f2 (z:Int)+sumI ((chainP L m (itemE L (z:Int))).map f2))=T2):=HS2.out
   obtain ⟨hl1,hl2,hl3,hl4⟩:=HLE.out (z:Int) hz0
   have hfz:=far_lt (L:=L) (i:=(x:Int)) (j:=(z:Int)) (by omega) (by omega) (by omega)
   have HCz:Hid (∀ W:World,ArgT W (some ⟨sb,off,none⟩) L→FlgA W g L.length F→Calls Tryz.prog 26 #[.slice (some ⟨sb,off,none⟩) L.length cap,.slice (some ⟨g,0,none⟩) L.length fc,.int .i64 (z:Int),.bool (inrB L (x:Int) (z:Int) true)] W fun e w'=>e=.returned (.tuple #[.int .i64 (f1 (z:Int)),.int .i64 (f2 (z:Int))])∧Below W.heap.size W w'):=fun W hW hG=>HC.out (z:Int) W hW hG hz0 (by omega)
   have HIz:Hid (∀ W:World,ArgT W (some ⟨sb,off,none⟩) L→Calls Tryz.prog 38 #[.slice (some ⟨sb,off,none⟩) L.length cap,.int .i64 (x:Int),.int .i64 (z:Int),.bool true] W fun e w'=>e=.returned (.bool (inrB L (x:Int) (z:Int) true))∧Below W.heap.size W w'):=fun W hW=>l17Inner_any _ cap L x z true W hW hL (by omega) (by omega)
   clear HS1 HS2
   obtain ⟨z2,hz2⟩:∃ z2:Nat,itemE L (z:Int)=(z2:Int):=⟨(itemE L (z:Int)).toNat,by omega⟩
   have HZ2:Hid (itemE L (z:Int)=(z2:Int)):=hz2
   rw [hz2] at HS1x HS2x hm2 hzu hq hl2 hl4
   clear hz2
   generalize f1 (z:Int)=d1 at HCz HS1x hl1 hl2
   generalize f2 (z:Int)=d2 at HCz HS2x hl3 hl4
   generalize inrB L (x:Int) (z:Int) true=ib at HCz HIz
   generalize sgAt L (z:Int)=yz at sz b41
   go_wp2_with fail
   refine (HIz.out _ hAr).mono ?_
   rintro r w2 ⟨rfl,hb2⟩
   have hB2:=bstep hB hb2
   go_wp2_with fail
   refine (HCz.out _ (h.call hB2) (hF.call hB2)).mono ?_
   rintro r w3 ⟨rfl,hb3⟩
   have hB3:=bstep hB2 hb3
   go_wp2_with fail
   refine (itemEndS_any _ cap L (z:Int) _ (h.call hB3) (by omega) ⟨by omega,by omega⟩).mono ?_
   rintro r w4 ⟨rfl,hb4⟩
   rw [HZ2.out]
   go_wp2
   go_roundw
   case rel=>exact ⟨z2,m,A+d1,B+d2,by go_num,by go_num,rfl,by omega,hm2,by omega,by omega,by omega,by omega,bstep hB3 hb4,by rw [← HS1x.out];show _=_;omega,by rw [← HS2x.out];show _=_;omega⟩
   case measure=>simp [intOf];omega
set_option maxRecDepth 100000 in
set_option maxHeartbeats 4000000 in
theorem dos_kept {a:Option Addr} {cap:Nat} {L:List ByteArray} {g fc:Nat} {F:Nat→Bool} {n:Nat} (hD:DosC a cap L g fc F n) (hL:L.length≤2000) (x:Nat) (w:World) (h:ArgT w a L) (hF:FlgA w g L.length F) (h0:0≤itemE L (x:Int)) (hn:farN L (x:Int)≤n+1) (ho:isW (sgAt L (x:Int)) [40]=true) (hd:isW (sgAt L ((x:Int)+1)) [100,111]=true) (hf:F x=true) :
  Calls Tryz.prog 26 #[.slice a L.length cap,.slice (some ⟨g,0,none⟩) L.length fc,.int .i64 (x:Int),.bool true] w fun e w'=>e=.returned (.tuple #[.int .i64 (dosF L g1 (n+1) (x:Int) true),.int .i64 (dosF L (gF F) (n+1) (x:Int) true)])∧Below w.heap.size w w':=by
 obtain ⟨mm,e,hc,he0,hel,he,hit⟩:=item_parts ho h0
 have hce:=chI_ends mm _ hc he0
 have hplc:=plc_chI hc he0 (by omega) (endB_shut he)
 obtain ⟨f1,hf1⟩:∃ f1:Int→Int,f1=fun k=>dosF L g1 n k (inrB L (x:Int) k true):=⟨_,rfl⟩
 obtain ⟨f2,hf2⟩:∃ f2:Int→Int,f2=fun k=>dosF L (gF F) n k (inrB L (x:Int) k true):=⟨_,rfl⟩
 obtain ⟨T1,hT1⟩:∃ T,dosF L g1 (n+1) (x:Int) true=T:=⟨_,rfl⟩
 obtain ⟨T2,hT2⟩:∃ T,dosF L (gF F) (n+1) (x:Int) true=T:=⟨_,rfl⟩
 have HT1:Hid (1+sumI ((chainP L mm ((x:Int)+1)).map f1)=T1):=(by
  rw [← hT1,hf1]
  show _=(if isW (sgAt L (x:Int)) [40]=false then 0 else _)
  rw [ho,if_neg (by decide),hplc,hd]
  rfl:1+sumI ((chainP L mm ((x:Int)+1)).map f1)=T1)
 have HT2:Hid (1+sumI ((chainP L mm ((x:Int)+1)).map f2)=T2):=(by
  rw [← hT2,hf2]
  show _=(if isW (sgAt L (x:Int)) [40]=false then 0 else _)
  rw [ho,if_neg (by decide),hplc,hd]
  show _=(if F ((x:Int)).toNat then (1:Int) else 0)+_
  rw [Int.toNat_natCast,hf]
  rfl:1+sumI ((chainP L mm ((x:Int)+1)).map f2)=T2)
 have HC:Hid (∀ (k:Int) (W:World),ArgT W a L→FlgA W g L.length F→0≤itemE L k→farN L k≤n→Calls Tryz.prog 26 #[.slice a L.length cap,.slice (some ⟨g,0,none⟩) L.length fc,.int .i64 k,.bool (inrB L (x:Int) k true)] W fun e w'=>e=.returned (.tuple #[.int .i64 (f1 k),.int .i64 (f2 k)])∧Below W.heap.size W w'):=fun k W hW hG hk hkn=>by
  rw [hf1,hf2]
  exact hD k _ W hW hG hk hkn
 have HLE:Hid (∀ k,0≤itemE L k→0≤f1 k∧f1 k≤itemE L k - k∧0≤f2 k∧f2 k≤itemE L k - k):=fun k hk=>by
  rw [hf1,hf2]
  have e1:=dos_le g1_le n k (inrB L (x:Int) k true) hk
  have e2:=dos_le (gF_le F) n k (inrB L (x:Int) k true) hk
  exact ⟨e1.1,e1.2,e2.1,e2.2⟩
 rw [hT1,hT2]
 obtain ⟨sb,off,rfl,s0,hsb⟩:=h.sg (i:=x) (by omega)
 have b40:((sgAt L (x:Int)).toList == [40])=true:=ho
 obtain ⟨sb1,off1,ha1,s1,_⟩:=h.sg (i:=x+1) (by omega)
 injection ha1 with ha1
 injection ha1 with e1 f1' _
 subst e1
 subst f1'
 rw [show ((x+1:Nat):Int)=(x:Int)+1 by omega] at s1
 have b_do:((sgAt L ((x:Int)+1)).toList == [100,111])=true:=hd
 have c1:=hF.2 x (by omega)
 rw [hf] at c1
 clear hD hT1 hT2 hf1 hf2 hplc hd
 generalize sgAt L (x:Int)=y0 at s0 b40
 generalize sgAt L ((x:Int)+1)=y1 at s1 b_do
 go_enter Tryz.func26,Tryz.ntmps26
 go_wp2
 go_loopw [10,11,12,13,14] (fun v10 v11 v12 _ _ wr=>∃ (z m:Nat) (A B:Int),v10=.int .i64 A∧v11=.int .i64 B∧v12=.int .i64 (z:Int)∧(x:Int)+1≤(z:Int)∧chI L m (z:Int) e∧0≤A∧A≤(z:Int) - x∧0≤B∧B≤(z:Int) - x∧Below w.heap.size w wr∧Hid (A+sumI ((chainP L m (z:Int)).map f1)=T1)∧Hid (B+sumI ((chainP L m (z:Int)).map f2)=T2)) (fun _ _ v12 _ _ _=>e.toNat - (intOf v12).toNat)
 case atStart =>
  have hc1:((x+1:Nat):Int)=(x:Int)+1:=by omega
  exact ⟨x+1,mm,1,1,rfl,rfl,by go_num,by omega,by rw [hc1];exact hc,by omega,by omega,by omega,by omega,Below.refl _ _,by rw [hc1];exact HT1.out,by rw [hc1];exact HT2.out⟩
 case round =>
  obtain ⟨z,m,A,B,rfl,rfl,rfl,hxz,hm,hA0,hA1,hB0,hB1,hB,HS1,HS2⟩:=hrel
  have hze:=chI_ends m _ hm he0
  have hAr:=h.call hB
  obtain ⟨sbz,offz,haz,sz,_⟩:=hAr.sg (i:=z) (by omega)
  injection haz with haz
  injection haz with ez fz _
  subst ez
  subst fz
  cases m with
  | zero =>
   have eqz:(z:Int)=e:=hm
   have b41:((sgAt L (z:Int)).toList == [41])=true:=by rw [eqz];exact he
   have HE1:Hid (A=T1):=(by rw [← HS1.out];show A=A+0;omega:A=T1)
   have HE2:Hid (B=T2):=(by rw [← HS2.out];show B=B+0;omega:B=T2)
   clear HS1 HS2 eqz hm
   generalize sgAt L (z:Int)=yz at sz b41
   go_wp2
   go_ret2
   exact ⟨by rw [← HE1.out,← HE2.out];rfl,hB⟩
  | succ m =>
   obtain ⟨hz0,hm2⟩:=hm
   have hzu:=itemE_up hz0
   have hq:=chI_ends m _ hm2 he0
   have b41:((sgAt L (z:Int)).toList == [41])=false:=not41 hz0
   have HS1x:Hid (A+(f1 (z:Int)+sumI ((chainP L m (itemE L (z:Int))).map f1))=T1):=HS1.out
   have HS2x:Hid (B+(f2 (z:Int)+sumI ((chainP L m (itemE L (z:Int))).map f2))=T2):=HS2.out
   obtain ⟨hl1,hl2,hl3,hl4⟩:=HLE.out (z:Int) hz0
   have hfz:=far_lt (L:=L) (i:=(x:Int)) (j:=(z:Int)) (by omega) (by omega) (by omega)
   have HCz:Hid (∀ W:World,ArgT W (some ⟨sb,off,none⟩) L→FlgA W g L.length F→Calls Tryz.prog 26 #[.slice (some ⟨sb,off,none⟩) L.length cap,.slice (some ⟨g,0,none⟩) L.length fc,.int .i64 (z:Int),.bool (inrB L (x:Int) (z:Int) true)] W fun e w'=>e=.returned (.tuple #[.int .i64 (f1 (z:Int)),.int .i64 (f2 (z:Int))])∧Below W.heap.size W w'):=fun W hW hG=>HC.out (z:Int) W hW hG hz0 (by omega)
   have HIz:Hid (∀ W:World,ArgT W (some ⟨sb,off,none⟩) L→Calls Tryz.prog 38 #[.slice (some ⟨sb,off,none⟩) L.length cap,.int .i64 (x:Int),.int .i64 (z:Int),.bool true] W fun e w'=>e=.returned (.bool (inrB L (x:Int) (z:Int) true))∧Below W.heap.size W w'):=fun W hW=>l17Inner_any _ cap L x z true W hW hL (by omega) (by omega)
   clear HS1 HS2
   obtain ⟨z2,hz2⟩:∃ z2:Nat,itemE L (z:Int)=(z2:Int):=⟨(itemE L (z:Int)).toNat,by omega⟩
   have HZ2:Hid (itemE L (z:Int)=(z2:Int)):=hz2
   rw [hz2] at HS1x HS2x hm2 hzu hq hl2 hl4
   clear hz2
   generalize f1 (z:Int)=d1 at HCz HS1x hl1 hl2
   generalize f2 (z:Int)=d2 at HCz HS2x hl3 hl4
   generalize inrB L (x:Int) (z:Int) true=ib at HCz HIz
   generalize sgAt L (z:Int)=yz at sz b41
   go_wp2_with fail
   refine (HIz.out _ hAr).mono ?_
   rintro r w2 ⟨rfl,hb2⟩
   have hB2:=bstep hB hb2
   go_wp2_with fail
   refine (HCz.out _ (h.call hB2) (hF.call hB2)).mono ?_
   rintro r w3 ⟨rfl,hb3⟩
   have hB3:=bstep hB2 hb3
   go_wp2_with fail
   refine (itemEndS_any _ cap L (z:Int) _ (h.call hB3) (by omega) ⟨by omega,by omega⟩).mono ?_
   rintro r w4 ⟨rfl,hb4⟩
   rw [HZ2.out]
   go_wp2
   go_roundw
   case rel=>exact ⟨z2,m,A+d1,B+d2,by go_num,by go_num,rfl,by omega,hm2,by omega,by omega,by omega,by omega,bstep hB3 hb4,by rw [← HS1x.out];show _=_;omega,by rw [← HS2x.out];show _=_;omega⟩
   case measure=>simp [intOf];omega
theorem l17Dos_any {a:Option Addr} {cap:Nat} {L:List ByteArray} {g fc:Nat} {F:Nat→Bool} {n:Nat} (hD:DosC a cap L g fc F n) (hL:L.length≤2000):DosC a cap L g fc F (n+1):=by
 intro i loop w h hF h0 hn
 have hu:=itemE_up h0
 obtain ⟨x,rfl⟩:∃ x:Nat,i=(x:Int):=⟨i.toNat,by omega⟩
 cases ho:isW (sgAt L (x:Int)) [40]
 ·have HE:Hid (∀ g,dosF L g (n+1) (x:Int) loop=0):=fun g=>by
   show (if isW (sgAt L (x:Int)) [40]=false then 0 else _)=0
   rw [ho]
   rfl
  rw [HE.out,HE.out]
  obtain ⟨sb,off,rfl,s0,hsb⟩:=h.sg (i:=x) (by omega)
  have b40:((sgAt L (x:Int)).toList == [40])=false:=ho
  clear HE hD
  generalize sgAt L (x:Int)=y0 at s0 b40
  go_enter Tryz.func26,Tryz.ntmps26
  go_wp2
  go_ret2
  exact ⟨rfl,Below.refl _ _⟩
 ·cases loop
  ·exact dos_no hD hL x w h hF h0 hn ho
  ·cases hd:isW (sgAt L ((x:Int)+1)) [100,111]
   ·exact dos_not hD hL x w h hF h0 hn ho hd
   ·cases hf:F x
    ·exact dos_do hD hL x w h hF h0 hn ho hd hf
    ·exact dos_kept hD hL x w h hF h0 hn ho hd hf
theorem dosC_any {a:Option Addr} {cap:Nat} {L:List ByteArray} {g fc:Nat} {F:Nat→Bool} (hL:L.length≤2000):∀ n,DosC a cap L g fc F n
 | 0=>fun i loop w _ _ h0 hn=>absurd hn (by have hu:=itemE_up h0;have:=far_pos (L:=L) hu.1 (by omega);omega)
 | n+1=>l17Dos_any (dosC_any hL n) hL
noncomputable def lpsN (L:List ByteArray):Int:=rngS (wtF L g1) L.length 0
noncomputable def kptN (L:List ByteArray):Int:=rngS (wtF L (gF (flgs L))) L.length 0
set_option maxRecDepth 100000 in
set_option maxHeartbeats 4000000 in
theorem l17All_any (a:Option Addr) (cap:Nat) (L:List ByteArray) (w:World) (h:ArgT w a L) (hp:playB L=true) :
  Calls Tryz.prog 15 #[.slice a L.length cap] w fun e w'=>e=.returned (.tuple #[.int .i64 (lpsN L),.int .i64 (kptN L)])∧Below w.heap.size w w':=by
 have hL:=play_len hp
 obtain ⟨mm,hkd⟩:=play_deeds hp
 have hc:=chI_V mm 0 (chain_deeds mm 0 hkd).1
 have hR:=play_reg hp
 obtain ⟨f1,hf1⟩:∃ f1:Int→Int,f1=fun k=>dosF L g1 (L.length+2) k false:=⟨_,rfl⟩
 obtain ⟨f2,hf2⟩:∃ f2:Int→Int,f2=fun k=>dosF L (gF (flgs L)) (L.length+2) k false:=⟨_,rfl⟩
 have key:∀ g:Int→Int,sumI ((chainP L mm 0).map fun k=>dosF L g (L.length+2) k false)=rngS (wtF L g) L.length 0:=fun g=>by
  have hr:=rng_chain (wtF L g) mm 0 hc (by omega)
  rw [show ((L.length:Int) - 0).toNat=L.length by omega] at hr
  rw [hr]
  refine sumI_same _ _ _ fun k hk=>?_
  obtain ⟨d1,d2,d3,d4⟩:=chI_in mm _ hc (by omega) k hk
  exact dos_rng hR g _ k false (by omega) d3 (Or.inl (lp_top hc (by omega) hk).symm)
 have HT1:Hid (0+sumI ((chainP L mm 0).map f1)=lpsN L):=(by rw [hf1,key];unfold lpsN;omega:0+sumI ((chainP L mm 0).map f1)=lpsN L)
 have HT2:Hid (0+sumI ((chainP L mm 0).map f2)=kptN L):=(by rw [hf2,key];unfold kptN;omega:0+sumI ((chainP L mm 0).map f2)=kptN L)
 have HC:Hid (∀ (g k:Int) (gg:Nat) (W:World),ArgT W a L→FlgA W gg L.length (flgs L)→0≤itemE L k→Calls Tryz.prog 26 #[.slice a L.length cap,.slice (some ⟨gg,0,none⟩) L.length L.length,.int .i64 k,.bool false] W fun e w'=>e=.returned (.tuple #[.int .i64 (f1 k),.int .i64 (f2 k)])∧Below W.heap.size W w'):=fun _ k gg W hW hG hk=>by
  rw [hf1,hf2]
  exact dosC_any hL _ k false W hW hG hk (far_top L k)
 have HLE:Hid (∀ k,0≤itemE L k→0≤f1 k∧f1 k≤itemE L k - k∧0≤f2 k∧f2 k≤itemE L k - k):=fun k hk=>by
  rw [hf1,hf2]
  have e1:=dos_le g1_le (L.length+2) k false hk
  have e2:=dos_le (gF_le (flgs L)) (L.length+2) k false hk
  exact ⟨e1.1,e1.2,e2.1,e2.2⟩
 clear hf1 hf2 key hR hkd
 generalize lpsN L=T1 at HT1 ⊢
 generalize kptN L=T2 at HT2 ⊢
 go_enter Tryz.func15,Tryz.ntmps15
 go_wp2_with fail
 refine (l17Flags_any a cap L _ h hp).mono ?_
 rintro r w1 ⟨rfl,hF,hb1⟩
 go_wp2
 go_loopw [5,6,7,8,9] (fun v5 v6 v7 _ _ wr=>∃ (z m:Nat) (A B:Int),v5=.int .i64 A∧v6=.int .i64 B∧v7=.int .i64 (z:Int)∧chI L m (z:Int) (L.length:Int)∧0≤A∧A≤(z:Int)∧0≤B∧B≤(z:Int)∧Below w1.heap.size w1 wr∧Hid (A+sumI ((chainP L m (z:Int)).map f1)=T1)∧Hid (B+sumI ((chainP L m (z:Int)).map f2)=T2)) (fun _ _ v7 _ _ _=>L.length - (intOf v7).toNat)
 case atStart=>exact ⟨0,mm,0,0,rfl,rfl,rfl,hc,by omega,by omega,by omega,by omega,Below.refl _ _,HT1.out,HT2.out⟩
 case round =>
  obtain ⟨z,m,A,B,rfl,rfl,rfl,hm,hA0,hA1,hB0,hB1,hB,HS1,HS2⟩:=hrel
  have hze:=chI_ends m _ hm (by omega)
  have hBB:=bstep hb1 hB
  have hAr:=h.call hBB
  cases m with
  | zero =>
   have eqz:(z:Int)=(L.length:Int):=hm
   have HM:Hid ((decide ((z:Int) < (L.length:Int)) && !isW (sgAt L (z:Int)) [41])=false):=(by rw [decide_eq_false (by omega)];rfl:(decide ((z:Int) < (L.length:Int)) && !isW (sgAt L (z:Int)) [41])=false)
   have HE1:Hid (A=T1):=(by rw [← HS1.out];show A=A+0;omega:A=T1)
   have HE2:Hid (B=T2):=(by rw [← HS2.out];show B=B+0;omega:B=T2)
   clear HS1 HS2 eqz hm
   go_wp2_with fail
   refine (l5More_any a cap L (z:Int) _ hAr (by omega) (by omega) (by omega)).mono ?_
   rintro r w2 ⟨rfl,hb2⟩
   rw [HM.out]
   go_wp2
   go_ret2
   exact ⟨by rw [← HE1.out,← HE2.out];rfl,bstep hBB hb2⟩
  | succ m =>
   obtain ⟨hz0,hm2⟩:=hm
   have hzu:=itemE_up hz0
   have hq:=chI_ends m _ hm2 (by omega)
   have HM:Hid ((decide ((z:Int) < (L.length:Int)) && !isW (sgAt L (z:Int)) [41])=true):=(by rw [not41 hz0,decide_eq_true (by omega)];rfl:(decide ((z:Int) < (L.length:Int)) && !isW (sgAt L (z:Int)) [41])=true)
   have HS1x:Hid (A+(f1 (z:Int)+sumI ((chainP L m (itemE L (z:Int))).map f1))=T1):=HS1.out
   have HS2x:Hid (B+(f2 (z:Int)+sumI ((chainP L m (itemE L (z:Int))).map f2))=T2):=HS2.out
   obtain ⟨hl1,hl2,hl3,hl4⟩:=HLE.out (z:Int) hz0
   have HCz:Hid (∀ W:World,ArgT W a L→FlgA W w.heap.size L.length (flgs L)→Calls Tryz.prog 26 #[.slice a L.length cap,.slice (some ⟨w.heap.size,0,none⟩) L.length L.length,.int .i64 (z:Int),.bool false] W fun e w'=>e=.returned (.tuple #[.int .i64 (f1 (z:Int)),.int .i64 (f2 (z:Int))])∧Below W.heap.size W w'):=fun W hW hG=>HC.out 0 (z:Int) _ W hW hG hz0
   clear HS1 HS2
   obtain ⟨z2,hz2⟩:∃ z2:Nat,itemE L (z:Int)=(z2:Int):=⟨(itemE L (z:Int)).toNat,by omega⟩
   have HZ2:Hid (itemE L (z:Int)=(z2:Int)):=hz2
   rw [hz2] at HS1x HS2x hm2 hzu hq hl2 hl4
   clear hz2
   generalize f1 (z:Int)=d1 at HCz HS1x hl1 hl2
   generalize f2 (z:Int)=d2 at HCz HS2x hl3 hl4
   go_wp2_with fail
   refine (l5More_any a cap L (z:Int) _ hAr (by omega) (by omega) (by omega)).mono ?_
   rintro r w2 ⟨rfl,hb2⟩
   rw [HM.out]
   have hB2:=bstep hB hb2
   go_wp2_with fail
   refine (HCz.out _ (h.call (bstep hb1 hB2)) (hF.call hB2)).mono ?_
   rintro r w3 ⟨rfl,hb3⟩
   have hB3:=bstep hB2 hb3
   go_wp2_with fail
   refine (itemEndS_any _ cap L (z:Int) _ (h.call (bstep hb1 hB3)) (by omega) ⟨by omega,by omega⟩).mono ?_
   rintro r w4 ⟨rfl,hb4⟩
   rw [HZ2.out]
   go_wp2
   go_roundw
   case rel=>exact ⟨z2,m,A+d1,B+d2,by go_num,by go_num,rfl,hm2,by omega,by omega,by omega,by omega,bstep hB3 hb4,by rw [← HS1x.out];show _=_;omega,by rw [← HS2x.out];show _=_;omega⟩
   case measure=>simp [intOf];omega
noncomputable def capE (L:List ByteArray):Bool:=scopB L && decide (0 < kptN L)
theorem scop_play17 {L:List ByteArray} (h:scopB L=true):playB L=true:=by
 unfold scopB at h
 rw [Bool.and_eq_true] at h
 exact h.1
set_option maxHeartbeats 1000000 in
theorem capturedS_any (a:Option Addr) (cap:Nat) (L:List ByteArray) (w:World) (h:ArgT w a L) (hL:L.length≤1048576) :
  Calls Tryz.prog 6 #[.slice a L.length cap] w fun e w'=>e=.returned (.bool (capE L))∧Below w.heap.size w w':=by
 cases hp:scopB L
 ·have HC:Hid (capE L=false):=(by unfold capE;rw [hp];rfl:capE L=false)
  have HP:Hid (scopB L=false):=hp
  clear hp
  go_enter Tryz.func6,Tryz.ntmps6
  go_wp2_with fail
  refine (scopedS_any a cap L _ h hL).mono ?_
  rintro e w1 ⟨rfl,hb1⟩
  rw [HP.out]
  go_wp2
  go_ret
  exact ⟨by rw [HC.out];rfl,hb1⟩
 ·have HC:Hid (capE L=decide (0 < kptN L)):=(by unfold capE;rw [hp];rfl:capE L=decide (0 < kptN L))
  have HP:Hid (scopB L=true):=hp
  have hpl:=scop_play17 hp
  clear hp
  rw [HC.out]
  go_enter Tryz.func6,Tryz.ntmps6
  go_wp2_with fail
  refine (scopedS_any a cap L _ h hL).mono ?_
  rintro e w1 ⟨rfl,hb1⟩
  rw [HP.out]
  go_wp2_with fail
  refine (l17All_any a cap L _ (h.call hb1) hpl).mono ?_
  rintro e w2 ⟨rfl,hb2⟩
  go_wp2
  go_ret
  exact ⟨rfl,bstep hb1 hb2⟩
end Go.Proofs.YtdgihicpjonjgaaGreatDoor
