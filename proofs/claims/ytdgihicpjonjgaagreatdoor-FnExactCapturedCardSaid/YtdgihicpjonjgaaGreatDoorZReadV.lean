import Derived.Test.YtdgihicpjonjgaaGreatDoorZShapeS
import Derived.Test.YtdgihicpjonjgaaGreatDoorZDigits
import Derived.Test.YtdgihicpjonjgaaGreatDoorZPowT
import Derived.Test.YtdgihicpjonjgaaGreatDoorZSignC
import Derived.Test.YtdgihicpjonjgaaGreatDoorZFormZ
namespace Go.Proofs.YtdgihicpjonjgaaGreatDoor
open Go.RowKit
attribute [local go_sem] asNoneOfNone asNoneOfNumber asNoneOfText asNumberOfNone asNumberOfNumber asNumberOfText asTextOfNone asTextOfNumber asTextOfText asPlaceOfNone asPlaceOfNumber asPlaceOfText asWrongOfNone asWrongOfNumber asWrongOfText
def txt (k n:Int) (s:ByteArray):ByteArray :=
 if okV k n s then (if k=0 then ⟨#[110,111,110,101]⟩ else if k=1 then ⟨(Lib.itoa n).toArray⟩ else if k=2 then s else ⟨#[]⟩) else ⟨#[]⟩
def txF (k n:Int) (s:ByteArray):Int:=if okV k n s=true∧k < 3 then 0 else 1
theorem okV_lo {k n:Int} {s:ByteArray} (h:okV k n s=true):0≤k∧k≤5:=by
 unfold okV at h
 by_cases h0:k=0
 ·omega
 rw [if_neg h0] at h
 by_cases h1:k=1
 ·omega
 rw [if_neg h1] at h
 by_cases h2:k=2
 ·omega
 rw [if_neg h2] at h
 by_cases h3:3≤k∧k≤5
 ·omega
 rw [if_neg h3] at h
 exact absurd h (by decide)
theorem okV_num {n:Int} {s:ByteArray} (h:okV 1 n s=true):-999999999≤n∧n≤999999999:=by
 simp [okV,numB] at h
 exact h.1
theorem okV_text {n:Int} {s:ByteArray} (h:okV 2 n s=true):s.size≤60:=by
 simp [okV,textB] at h
 exact h.1.2
set_option maxHeartbeats 1000000 in
theorem textI_any (k n:Int) (s:ByteArray) (w:World) (hs:s.size≤maxLen) (ht:Tab w) :
  Calls Tryz.prog 152 #[.agg #[.int .i64 k,.int .i64 n,.string s]] w fun e w'=>e=.returned (.tuple #[.string (txt k n s),.int .i64 (txF k n s)])∧Below w.heap.size w w':=by
 cases ho:okV k n s
 ·have HX:Hid (txt k n s=⟨#[]⟩∧txF k n s=1):=by simp [Hid,txt,txF,ho]
  have HS:Hid (shapeV k n s=.iface 174 (.agg #[])):=by simp [Hid,shapeV,ho]
  clear ho
  go_enter Tryz.func152,Tryz.ntmps152
  go_wp2_with fail
  refine (shapeOf_any k n s _ hs).mono ?_
  rintro e w' ⟨rfl,hb⟩
  rw [HS.out]
  go_wp2
  go_ret2
  exact ⟨by rw [HX.out.1,HX.out.2];rfl,(by repeat' (first | (with_reducible exact Below.refl _ _) | (with_reducible refine Below.drew ?_) | (with_reducible refine balloc ?_ _) | (with_reducible refine bset ?_ _ ?_) | (with_reducible refine bstep ?_ (by with_reducible assumption)) | go_size))⟩
 obtain ⟨hk0,hk5⟩:=okV_lo ho
 by_cases h0:k=0
 ·subst h0
  have HX:Hid (txt 0 n s=⟨#[110,111,110,101]⟩∧txF 0 n s=0):=by simp [Hid,txt,txF,ho]
  have HS:Hid (shapeV 0 n s=.iface 163 (.agg #[])):=by simp [Hid,shapeV,ho,kindV]
  clear ho
  go_enter Tryz.func152,Tryz.ntmps152
  go_wp2_with fail
  refine (shapeOf_any 0 n s _ hs).mono ?_
  rintro e w' ⟨rfl,hb⟩
  rw [HS.out]
  go_wp2
  go_ret2
  exact ⟨by rw [HX.out.1,HX.out.2];rfl,(by repeat' (first | (with_reducible exact Below.refl _ _) | (with_reducible refine Below.drew ?_) | (with_reducible refine balloc ?_ _) | (with_reducible refine bset ?_ _ ?_) | (with_reducible refine bstep ?_ (by with_reducible assumption)) | go_size))⟩
 by_cases h1:k=1
 ·subst h1
  obtain ⟨hn0,hn1⟩:=okV_num ho
  have HX:Hid (txt 1 n s=⟨(Lib.itoa n).toArray⟩∧txF 1 n s=0):=by simp [Hid,txt,txF,ho]
  have HS:Hid (shapeV 1 n s=.iface 140 (.agg #[.int .i64 n])):=by simp [Hid,shapeV,ho,kindV]
  clear ho
  go_enter Tryz.func152,Tryz.ntmps152
  go_wp2_with fail
  refine (shapeOf_any 1 n s _ hs).mono ?_
  rintro e w' ⟨rfl,hb⟩
  rw [HS.out]
  go_wp2_with fail
  refine (format_any n _ hn0 hn1 (tab_call ht (by repeat' (first | (with_reducible exact Below.refl _ _) | (with_reducible refine Below.drew ?_) | (with_reducible refine balloc ?_ _) | (with_reducible refine bset ?_ _ ?_) | (with_reducible refine bstep ?_ (by with_reducible assumption)) | go_size)))).mono ?_
  rintro e w2 ⟨rfl,hb2⟩
  go_wp2
  go_ret2
  exact ⟨by rw [HX.out.1,HX.out.2];rfl,(by repeat' (first | (with_reducible exact Below.refl _ _) | (with_reducible refine Below.drew ?_) | (with_reducible refine balloc ?_ _) | (with_reducible refine bset ?_ _ ?_) | (with_reducible refine bstep ?_ (by with_reducible assumption)) | go_size))⟩
 by_cases h2:k=2
 ·subst h2
  have HX:Hid (txt 2 n s=s∧txF 2 n s=0):=by simp [Hid,txt,txF,ho]
  have HS:Hid (shapeV 2 n s=.iface 143 (.agg #[.string s])):=by simp [Hid,shapeV,ho,kindV]
  clear ho
  go_enter Tryz.func152,Tryz.ntmps152
  go_wp2_with fail
  refine (shapeOf_any 2 n s _ hs).mono ?_
  rintro e w' ⟨rfl,hb⟩
  rw [HS.out]
  go_wp2
  go_ret2
  exact ⟨by rw [HX.out.1,HX.out.2];rfl,(by repeat' (first | (with_reducible exact Below.refl _ _) | (with_reducible refine Below.drew ?_) | (with_reducible refine balloc ?_ _) | (with_reducible refine bset ?_ _ ?_) | (with_reducible refine bstep ?_ (by with_reducible assumption)) | go_size))⟩
 ·have HX:Hid (txt k n s=⟨#[]⟩∧txF k n s=1):=by
   unfold Hid txt txF
   rw [if_pos ho,if_neg h0,if_neg h1,if_neg h2,if_neg (by omega)]
   exact ⟨rfl,rfl⟩
  have HS:Hid (shapeV k n s=.iface 181 (.agg #[.int .i64 k,.int .i64 n])):=by
   unfold Hid shapeV kindV
   rw [if_pos ho,if_neg h0,if_neg h1,if_neg h2,if_pos ⟨by omega,by omega⟩]
  clear ho
  go_enter Tryz.func152,Tryz.ntmps152
  go_wp2_with fail
  refine (shapeOf_any k n s _ hs).mono ?_
  rintro e w' ⟨rfl,hb⟩
  rw [HS.out]
  go_wp2
  go_ret2
  exact ⟨by rw [HX.out.1,HX.out.2];rfl,(by repeat' (first | (with_reducible exact Below.refl _ _) | (with_reducible refine Below.drew ?_) | (with_reducible refine balloc ?_ _) | (with_reducible refine bset ?_ _ ?_) | (with_reducible refine bstep ?_ (by with_reducible assumption)) | go_size))⟩
end Go.Proofs.YtdgihicpjonjgaaGreatDoor
namespace Go.Proofs.YtdgihicpjonjgaaGreatDoor
open Go.RowKit
theorem parse_any (s:ByteArray) (w:World) (hs:s.size≤60) (h:numerB s=true) :
  Calls Tryz.prog 151 #[.string s,.int .i64 10,.int .i64 64] w fun e w'=>e=.returned (.tuple #[.int .i64 (readN s),.nilIface])∧Below w.heap.size w w':=by
 refine (Tryz.strconv_ParseInt_10_at64_ok s (by omega) (readN s) (parse_numer ((numerB_iff s).mp h)).1 w).mono ?_
 rintro e w' ⟨rfl,rfl | ⟨t,rfl⟩⟩
 ·exact ⟨rfl,Below.refl _ _⟩
 ·exact ⟨rfl,⟨rfl,rfl,rfl,by rw [Lib.bytesWorld_size];omega,fun j hj=>Lib.bytesWorld_at_old w _ t j hj⟩⟩
theorem numer_size {s:ByteArray} (h:numerB s=true):s.size≤10:=by
 have h1:=((numerB_iff s).mp h).2.1
 have:=fromD_le s
 omega
set_option maxHeartbeats 1000000 in
theorem readNumberI_any (s:ByteArray) (w:World) (hs:s.size≤maxLen) :
  Calls Tryz.prog 133 #[.string s] w fun e w'=>e=.returned (.tuple #[.int .i64 (numN s),.bool (numerB s)])∧Below w.heap.size w w':=by
 cases hn:numerB s
 ·have HB:Hid (numerB s=false∧numN s=0):=num_no hn
  have HK:Hid ((kindN s != 3)=true):=by
   show (kindN s != 3)=true
   rw [bne_iff_ne]
   intro h
   rw [(numerB_iff s).mpr ((numer_iff s).mpr h)] at hn
   exact absurd hn (by decide)
  clear hn
  go_enter Tryz.func133,Tryz.ntmps133
  go_wp2_with fail
  refine (signKind_any s _ hs).mono ?_
  rintro e w1 ⟨rfl,rfl⟩
  generalize kindN s=kd at HK ⊢
  have hk:=HK.out
  go_wp2
  go_ret2
  exact ⟨by rw [HB.out.2];rfl,Below.refl _ _⟩
 ·have HB:Hid (numerB s=true∧numN s=readN s):=num_yes hn rfl
  have hz:=numer_size hn
  have HK:Hid (kindN s=3):=kind_numer ((numerB_iff s).mp hn)
  have HN:Hid (numerB s=true):=hn
  clear hn
  go_enter Tryz.func133,Tryz.ntmps133
  go_wp2_with fail
  refine (signKind_any s _ hs).mono ?_
  rintro e w1 ⟨rfl,rfl⟩
  rw [HK.out]
  go_wp2_with fail
  refine (parse_any s _ (by omega) HN.out).mono ?_
  rintro e w2 ⟨rfl,hb⟩
  go_wp2
  go_quiet (fail)
  go_wp2
  go_ret2
  exact ⟨by rw [HB.out.2];rfl,⟨hb.os,hb.tape,hb.output,hb.size,hb.block⟩⟩
def quo (s:ByteArray):ByteArray:=⟨#[39]⟩++s++⟨#[39]⟩
def sgn (k n:Int) (s:ByteArray):ByteArray:=if txF k n s=0∧k=2 then quo (txt k n s) else txt k n s
theorem sgn_text {n:Int} {s:ByteArray} (ho:okV 2 n s=true):txt 2 n s=s∧txF 2 n s=0∧sgn 2 n s=quo s:=by
 have h1:txt 2 n s=s:=by simp [txt,ho]
 have h2:txF 2 n s=0:=by simp [txF,ho]
 exact ⟨h1,h2,by unfold sgn;rw [if_pos ⟨h2,rfl⟩,h1]⟩
theorem sgn_other {k n:Int} {s:ByteArray} (hk:k≠2):sgn k n s=txt k n s:=by unfold sgn;rw [if_neg (fun h=>hk h.2)]
theorem sgn_bad {k n:Int} {s:ByteArray} (ho:okV k n s=false):txt k n s=⟨#[]⟩∧txF k n s=1∧sgn k n s=⟨#[]⟩:=by
 have h1:txt k n s=⟨#[]⟩:=by simp [txt,ho]
 have h2:txF k n s=1:=by simp [txF,ho]
 exact ⟨h1,h2,by unfold sgn;rw [if_neg (by rw [h2];intro h;exact absurd h.1 (by decide)),h1]⟩
set_option maxHeartbeats 1000000 in
theorem signOfI_any (k n:Int) (s:ByteArray) (w:World) (hs:s.size≤maxLen) (ht:Tab w) :
  Calls Tryz.prog 136 #[.agg #[.int .i64 k,.int .i64 n,.string s]] w fun e w'=>e=.returned (.string (sgn k n s))∧Below w.heap.size w w':=by
 have hT:∀ W:World,Below w.heap.size w W→Tab W:=fun W hb=>tab_call ht hb
 by_cases h2:k=2
 ·subst h2
  cases ho:okV 2 n s
  ·have HX:Hid (txt 2 n s=⟨#[]⟩∧txF 2 n s=1∧sgn 2 n s=⟨#[]⟩):=sgn_bad ho
   clear ho
   go_enter Tryz.func136,Tryz.ntmps136
   go_wp2_with fail
   refine (textI_any 2 n s _ hs (hT _ (by repeat' (first | (with_reducible exact Below.refl _ _) | (with_reducible refine Below.drew ?_) | (with_reducible refine balloc ?_ _) | (with_reducible refine bset ?_ _ ?_) | (with_reducible refine bstep ?_ (by with_reducible assumption)) | go_size)))).mono ?_
   rintro e w1 ⟨rfl,hb1⟩
   rw [HX.out.1,HX.out.2.1]
   go_wp2
   go_ret
   exact ⟨by rw [HX.out.2.2];rfl,(by repeat' (first | (with_reducible exact Below.refl _ _) | (with_reducible refine Below.drew ?_) | (with_reducible refine balloc ?_ _) | (with_reducible refine bset ?_ _ ?_) | (with_reducible refine bstep ?_ (by with_reducible assumption)) | go_size))⟩
  ·have hz:=okV_text ho
   have HX:Hid (txt 2 n s=s∧txF 2 n s=0∧sgn 2 n s=quo s):=sgn_text ho
   clear ho
   go_enter Tryz.func136,Tryz.ntmps136
   go_wp2_with fail
   refine (textI_any 2 n s _ hs (hT _ (by repeat' (first | (with_reducible exact Below.refl _ _) | (with_reducible refine Below.drew ?_) | (with_reducible refine balloc ?_ _) | (with_reducible refine bset ?_ _ ?_) | (with_reducible refine bstep ?_ (by with_reducible assumption)) | go_size)))).mono ?_
   rintro e w1 ⟨rfl,hb1⟩
   rw [HX.out.1,HX.out.2.1]
   obtain ⟨hc,hf⟩:=bcell hb1
   go_wp2
   go_ret
   exact ⟨by rw [HX.out.2.2];rfl,(by repeat' (first | (with_reducible exact Below.refl _ _) | (with_reducible refine Below.drew ?_) | (with_reducible refine balloc ?_ _) | (with_reducible refine bset ?_ _ ?_) | (with_reducible refine bstep ?_ (by with_reducible assumption)) | go_size))⟩
 ·have b2:(k == 2)=false:=by simpa using h2
  have HX:Hid (sgn k n s=txt k n s):=sgn_other h2
  have hor:Hid (txF k n s=0∨txF k n s=1):=by unfold Hid txF;split <;> simp
  go_enter Tryz.func136,Tryz.ntmps136
  go_wp2_with fail
  refine (textI_any k n s _ hs (hT _ (by repeat' (first | (with_reducible exact Below.refl _ _) | (with_reducible refine Below.drew ?_) | (with_reducible refine balloc ?_ _) | (with_reducible refine bset ?_ _ ?_) | (with_reducible refine bstep ?_ (by with_reducible assumption)) | go_size)))).mono ?_
  rintro e w1 ⟨rfl,hb1⟩
  obtain ⟨hc,hf⟩:=bcell hb1
  rcases hor.out with q | q
  all_goals
   rw [q]
   generalize hx:txt k n s=tx at HX ⊢
   clear q hor hx
   go_wp2
   go_ret
   exact ⟨by rw [HX.out];rfl,(by repeat' (first | (with_reducible exact Below.refl _ _) | (with_reducible refine Below.drew ?_) | (with_reducible refine balloc ?_ _) | (with_reducible refine bset ?_ _ ?_) | (with_reducible refine bstep ?_ (by with_reducible assumption)) | go_size))⟩
end Go.Proofs.YtdgihicpjonjgaaGreatDoor
namespace Go.Proofs.YtdgihicpjonjgaaGreatDoor
open Go.RowKit
set_option maxHeartbeats 400000 in
theorem textShapeV_any (s:ByteArray) (w:World) :
  Calls Tryz.prog 135 #[.agg #[.string s]] w fun e w' =>
   e=.returned (.agg #[.int .i64 2,.int .i64 0,.string s])∧Below w.heap.size w w':=by
 go_enter Tryz.func135,Tryz.ntmps135
 go_wp2
 go_returns
 exact ⟨rfl,by go_grown⟩
set_option maxHeartbeats 1000000 in
theorem valueInI_any (s:ByteArray) (w:World) (hs:s.size≤maxLen) (ht:Tab w) :
  Calls Tryz.prog 115 #[.string s] w fun e w'=>e=.returned (.tuple #[.agg #[.int .i64 (viK s),.int .i64 (viN s),.string (viT s)],.bool (viB s)])∧Below w.heap.size w w':=by
 have hT:∀ W:World,Below w.heap.size w W→Tab W:=fun W hb=>tab_call ht hb
 cases hn:numerB s
 ·cases hq:quotB s
  ·have HV:Hid (viK s=0∧viN s=0∧viT s=⟨#[]⟩∧viB s=(s.toList == [110,111,110,101])):=vi_rest hn hq
   have H3:Hid ((kindN s == 3)=false):=by
    show (kindN s == 3)=false
    rw [beq_eq_false_iff_ne]
    intro h
    rw [(numerB_iff s).mpr ((numer_iff s).mpr h)] at hn
    exact absurd hn (by decide)
   have H4:Hid ((kindN s == 4)=false):=by
    show (kindN s == 4)=false
    rw [beq_eq_false_iff_ne]
    intro h
    rw [(quotB_iff s).mpr ((quot_iff s).mpr h)] at hq
    exact absurd hq (by decide)
   have HG:Hid (sgn 0 0 ⟨#[]⟩=⟨#[110,111,110,101]⟩):=(by rw [sgn_other (by decide)];simp [txt,okV,emB,ByteArray.toList_eq]:sgn 0 0 ⟨#[]⟩=⟨#[110,111,110,101]⟩)
   clear hn hq
   go_enter Tryz.func115,Tryz.ntmps115
   go_wp2_with fail
   refine (signKind_any s _ hs).mono ?_
   rintro e w1 ⟨rfl,rfl⟩
   generalize kindN s=kd at H3 H4 ⊢
   have h3:=H3.out
   have h4:=H4.out
   go_wp2_with fail
   refine (signOfI_any 0 0 ⟨#[]⟩ _ (by decide) (hT _ (by repeat' (first | (with_reducible exact Below.refl _ _) | (with_reducible refine Below.drew ?_) | (with_reducible refine balloc ?_ _) | (with_reducible refine bset ?_ _ ?_) | (with_reducible refine bstep ?_ (by with_reducible assumption)) | go_size)))).mono ?_
   rintro e w2 ⟨rfl,hb2⟩
   rw [HG.out]
   obtain ⟨hc,hf⟩:=bcell hb2
   go_wp2
   exact bodyPost_ret (by simp [results,Tryz.results115,go_sem,hc];rfl) rfl ⟨by rw [HV.out.1,HV.out.2.1,HV.out.2.2.1,HV.out.2.2.2],(by repeat' (first | (with_reducible exact Below.refl _ _) | (with_reducible refine Below.drew ?_) | (with_reducible refine balloc ?_ _) | (with_reducible refine bset ?_ _ ?_) | (with_reducible refine bstep ?_ (by with_reducible assumption)) | go_size))⟩
  ·have HV:Hid (viK s=2∧viN s=0∧viT s=s.extract 1 (s.size - 1)∧viB s=true):=vi_quot hn hq
   have HK:Hid (kindN s=4):=kind_quot ((quotB_iff s).mp hq)
   have h1:1 < s.size:=((quotB_iff s).mp hq).1
   clear hn hq
   unfold maxLen at hs
   go_enter Tryz.func115,Tryz.ntmps115
   go_wp2_with fail
   refine (signKind_any s _ hs).mono ?_
   rintro e w1 ⟨rfl,rfl⟩
   rw [HK.out]
   go_wp2_with fail
   refine (textShapeV_any _ _).mono ?_
   rintro e w2 ⟨rfl,hb2⟩
   obtain ⟨hc,hf⟩:=bcell hb2
   go_wp2
   exact bodyPost_ret (by simp [results,Tryz.results115,go_sem,hc];rfl) rfl ⟨by rw [HV.out.1,HV.out.2.1,HV.out.2.2.1,HV.out.2.2.2],(by repeat' (first | (with_reducible exact Below.refl _ _) | (with_reducible refine Below.drew ?_) | (with_reducible refine balloc ?_ _) | (with_reducible refine bset ?_ _ ?_) | (with_reducible refine bstep ?_ (by with_reducible assumption)) | go_size))⟩
 ·have HN:Hid (numerB s=true∧numN s=readN s):=num_yes hn rfl
  have HK:Hid (kindN s=3):=kind_numer ((numerB_iff s).mp hn)
  have HV:Hid (viK s=1∧viN s=readN s∧viT s=⟨#[]⟩∧viB s=true):=vi_num hn
  clear hn
  go_enter Tryz.func115,Tryz.ntmps115
  go_wp2_with fail
  refine (signKind_any s _ hs).mono ?_
  rintro e w1 ⟨rfl,rfl⟩
  rw [HK.out]
  go_wp2_with fail
  refine (readNumberI_any s _ hs).mono ?_
  rintro e w2 ⟨rfl,hb2⟩
  rw [HN.out.1,HN.out.2]
  obtain ⟨hc,hf⟩:=bcell hb2
  have hz0:w.heap.size < w2.heap.size:=bsize hb2 _ (by simp)
  go_wp2_with fail
  refine (value_any _ _).mono ?_
  rintro e w3 ⟨rfl,hb3⟩
  obtain ⟨hc3,hf3⟩:=bcell hb3
  go_wp2
  exact bodyPost_ret (by simp [results,Tryz.results115,go_sem,hc,hz0,hc3];rfl) rfl ⟨by rw [HV.out.1,HV.out.2.1,HV.out.2.2.1,HV.out.2.2.2],(by repeat' (first | (with_reducible exact Below.refl _ _) | (with_reducible refine Below.drew ?_) | (with_reducible refine balloc ?_ _) | (with_reducible refine bset ?_ _ ?_) | (with_reducible refine bstep ?_ (by with_reducible assumption)) | go_size))⟩
end Go.Proofs.YtdgihicpjonjgaaGreatDoor
