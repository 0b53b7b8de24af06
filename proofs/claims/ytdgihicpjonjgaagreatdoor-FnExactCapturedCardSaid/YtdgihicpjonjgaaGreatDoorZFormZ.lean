import Derived.Test.YtdgihicpjonjgaaGreatDoorZSignC
import Derived.Test.YtdgihicpjonjgaaGreatDoorZLeafS
import Derived.Test.YtdgihicpjonjgaaGreatDoorZForms
namespace Go.Proofs.YtdgihicpjonjgaaGreatDoor
open Go.RowKit
def noneB (s:ByteArray):Bool:=s.toList == [110,111,110,101]
theorem none_kind {s:ByteArray} (h:noneB s=true):kindN s=2:=by
 unfold noneB at h
 rw [ByteArray.toList_eq,beq_iff_eq] at h
 have hs:s=⟨#[110,111,110,101]⟩:=bytes_ext h
 rw [hs]
 rfl
def viK (s:ByteArray):Int:=if numerB s then 1 else if quotB s then 2 else 0
def viN (s:ByteArray):Int:=if numerB s then readN s else 0
def viT (s:ByteArray):ByteArray:=if numerB s then ⟨#[]⟩ else if quotB s then s.extract 1 (s.size - 1) else ⟨#[]⟩
def viB (s:ByteArray):Bool:=numerB s || quotB s || noneB s
theorem vi_num {s:ByteArray} (h:numerB s=true):viK s=1∧viN s=readN s∧viT s=⟨#[]⟩∧viB s=true:=by simp [viK,viN,viT,viB,h]
theorem vi_quot {s:ByteArray} (h:numerB s=false) (hq:quotB s=true):viK s=2∧viN s=0∧viT s=s.extract 1 (s.size - 1)∧viB s=true:=by simp [viK,viN,viT,viB,h,hq]
theorem vi_rest {s:ByteArray} (h:numerB s=false) (hq:quotB s=false):viK s=0∧viN s=0∧viT s=⟨#[]⟩∧viB s=noneB s:=by simp [viK,viN,viT,viB,h,hq]
theorem numer_none {s:ByteArray} (h:noneB s=true):numerB s=false∧quotB s=false:=by
 have hk:=none_kind h
 constructor
 ·refine Bool.eq_false_iff.mpr fun hn=>?_
  rw [kind_numer ((numerB_iff s).mp hn)] at hk
  exact absurd hk (by decide)
 ·refine Bool.eq_false_iff.mpr fun hn=>?_
  rw [kind_quot ((quotB_iff s).mp hn)] at hk
  exact absurd hk (by decide)
set_option maxHeartbeats 1000000 in
theorem valueInS_any (s:ByteArray) (w:World) (hs:s.size≤maxLen) :
  Calls Tryz.prog 104 #[.string s] w fun e w'=>e=.returned (.tuple #[.agg #[.int .i64 (viK s),.int .i64 (viN s),.string (viT s)],.bool (viB s)])∧Below w.heap.size w w':=by
 cases hn:numerB s
 ·have HN:Hid (numerB s=false∧numN s=0):=num_no hn
  cases ho:noneB s
  ·have HO:(s.toList == [110,111,110,101])=false:=ho
   cases hq:quotB s
   ·have HQ:Hid (quotB s=_):=hq
    have HV:Hid (viK s=0∧viN s=0∧viT s=⟨#[]⟩∧viB s=false):=by
     obtain ⟨a,b,c,d⟩:=vi_rest hn hq
     exact ⟨a,b,c,d.trans ho⟩
    clear hn ho hq
    go_enter Tryz.func104,Tryz.ntmps104
    go_wp2_with fail
    refine (readNumberS_any s _ hs).mono ?_
    rintro e w1 ⟨rfl,rfl⟩
    rw [HN.out.1,HN.out.2]
    go_wp2_with fail
    refine (l2Quoted_any s _ hs).mono ?_
    rintro e w1 ⟨rfl,rfl⟩
    rw [HQ.out]
    go_wp2
    go_returns
    exact ⟨by rw [HV.out.1,HV.out.2.1,HV.out.2.2.1,HV.out.2.2.2],(by repeat' (first | (with_reducible exact Below.refl _ _) | (with_reducible refine Below.drew ?_) | (with_reducible refine balloc ?_ _) | (with_reducible refine bset ?_ _ ?_) | (with_reducible refine bstep ?_ (by with_reducible assumption)) | go_size))⟩
   ·have HQ:Hid (quotB s=_):=hq
    have h1:1 < s.size:=((quotB_iff s).mp hq).1
    have HV:Hid (viK s=2∧viN s=0∧viT s=s.extract 1 (s.size - 1)∧viB s=true):=vi_quot hn hq
    clear hn ho hq
    unfold maxLen at hs
    go_enter Tryz.func104,Tryz.ntmps104
    go_wp2_with fail
    refine (readNumberS_any s _ hs).mono ?_
    rintro e w1 ⟨rfl,rfl⟩
    rw [HN.out.1,HN.out.2]
    go_wp2_with fail
    refine (l2Quoted_any s _ hs).mono ?_
    rintro e w1 ⟨rfl,rfl⟩
    rw [HQ.out]
    go_wp2
    go_returns
    exact ⟨by rw [HV.out.1,HV.out.2.1,HV.out.2.2.1,HV.out.2.2.2],(by repeat' (first | (with_reducible exact Below.refl _ _) | (with_reducible refine Below.drew ?_) | (with_reducible refine balloc ?_ _) | (with_reducible refine bset ?_ _ ?_) | (with_reducible refine bstep ?_ (by with_reducible assumption)) | go_size))⟩
  ·have HO:(s.toList == [110,111,110,101])=true:=ho
   have HV:Hid (viK s=0∧viN s=0∧viT s=⟨#[]⟩∧viB s=true):=by
    obtain ⟨a,b,c,d⟩:=vi_rest hn (numer_none ho).2
    exact ⟨a,b,c,d.trans ho⟩
   clear hn ho
   go_enter Tryz.func104,Tryz.ntmps104
   go_wp2_with fail
   refine (readNumberS_any s _ hs).mono ?_
   rintro e w1 ⟨rfl,rfl⟩
   rw [HN.out.1,HN.out.2]
   go_wp2
   go_returns
   exact ⟨by rw [HV.out.1,HV.out.2.1,HV.out.2.2.1,HV.out.2.2.2],(by repeat' (first | (with_reducible exact Below.refl _ _) | (with_reducible refine Below.drew ?_) | (with_reducible refine balloc ?_ _) | (with_reducible refine bset ?_ _ ?_) | (with_reducible refine bstep ?_ (by with_reducible assumption)) | go_size))⟩
 ·have HN:Hid (numerB s=true∧numN s=readN s):=num_yes hn rfl
  have HV:Hid (viK s=1∧viN s=readN s∧viT s=⟨#[]⟩∧viB s=true):=vi_num hn
  clear hn
  go_enter Tryz.func104,Tryz.ntmps104
  go_wp2_with fail
  refine (readNumberS_any s _ hs).mono ?_
  rintro e w1 ⟨rfl,rfl⟩
  rw [HN.out.1,HN.out.2]
  go_wp2_with fail
  refine (l1Value_any (readN s) _).mono ?_
  rintro e w2 ⟨rfl,hb2⟩
  obtain ⟨hc,hf⟩:=bcell hb2
  go_wp2
  exact bodyPost_ret (by simp [results,Tryz.results104,go_sem,hc];rfl) rfl ⟨by rw [HV.out.1,HV.out.2.1,HV.out.2.2.1,HV.out.2.2.2],(by repeat' (first | (with_reducible exact Below.refl _ _) | (with_reducible refine Below.drew ?_) | (with_reducible refine balloc ?_ _) | (with_reducible refine bset ?_ _ ?_) | (with_reducible refine bstep ?_ (by with_reducible assumption)) | go_size))⟩
end Go.Proofs.YtdgihicpjonjgaaGreatDoor
namespace Go.Proofs.YtdgihicpjonjgaaGreatDoor
open Go.RowKit
structure Forms (a:Option Addr) (cap:Nat) (L:List ByteArray) (n:Nat):Prop where
 sum:∀ (i:Int) (w:World),ArgT w a L→I64 i→8 * farN L i+1≤n→Calls Tryz.prog 54 #[.slice a L.length cap,.int .i64 i] w fun e w'=>e=.returned (.int .i64 (frm L n 0 i))∧Below w.heap.size w w'
 deed:∀ (i:Int) (f:Bool) (w:World),ArgT w a L→I64 i→8 * farN L i+1≤n→Calls Tryz.prog 35 #[.slice a L.length cap,.int .i64 i,.bool f] w fun e w'=>e=.returned (.int .i64 (frm L n (if f then 1 else 2) i))∧Below w.heap.size w w'
 par:∀ (i:Int) (w:World),ArgT w a L→I64 i→8 * farN L i+1≤n→Calls Tryz.prog 106 #[.slice a L.length cap,.int .i64 i] w fun e w'=>e=.returned (.int .i64 (frm L n 3 i))∧Below w.heap.size w w'
 many:∀ (q:Nat) (i:Int) (w:World),ArgT w a L→q≤3→-1≤i→i≤(L.length:Int)+1→8 * farN L i+2≤n→Calls Tryz.prog 56 #[.slice a L.length cap,.int .i64 i,.int .i64 (q:Int)] w fun e w'=>e=.returned (.int .i64 (frm L n (4+q) i))∧Below w.heap.size w w'
 sums:∀ (q:Nat) (i:Int) (w:World),ArgT w a L→q≤3→-1≤i→i≤(L.length:Int)+1→8 * farN L i+2+q≤n→Calls Tryz.prog 57 #[.slice a L.length cap,.int .i64 i,.int .i64 (q:Int)] w fun e w'=>e=.returned (.int .i64 (frm L n (8+q) i))∧Below w.heap.size w w'
theorem sub_of {L:List ByteArray} {i x:Int} (h0:0≤i) (h1:i < (L.length:Int)) (h:Fw L (i+2) x):-1≤x∧x≤(L.length:Int)+1∧farN L x+1≤farN L i:=by
 unfold Fw at h
 unfold farN
 rw [if_neg (show ¬ i < 0 by omega)]
 split <;> omega
section
variable {a:Option Addr} {cap:Nat} {L:List ByteArray} {n:Nat} {i:Int} {w:World}
set_option maxHeartbeats 4000000 in
theorem sum_flat (hA:ArgT w a L) (hL:L.length≤1048576) (hi:I64 i) (ho:isW (sgAt L i) [40]=false) :
  Calls Tryz.prog 54 #[.slice a L.length cap,.int .i64 i] w fun e w'=>e=.returned (.int .i64 (frm L (n+1) 0 i))∧Below w.heap.size w w':=by
 have hm:=sgAt_size hA i
 cases hv:viB (sgAt L i)
 ·cases hn:nmB (sgAt L i)
  ·have HV:Hid (frm L (n+1) 0 i=-1):=sumS_none ho (by show (viB (sgAt L i) || nmB (sgAt L i))=false;rw [hv,hn];rfl)
   have HB:Hid (viB (sgAt L i)=false):=hv
   have HN:Hid (nmB (sgAt L i)=false):=hn
   have b40:((sgAt L i).toList == [40])=false:=ho
   clear hv hn ho
   go_enter Tryz.func54,Tryz.ntmps54
   go_wp2_with fail
   refine (l4Sign_any a cap L i _ hA hL hi).mono ?_
   rintro e w1 ⟨rfl,hb1⟩
   generalize sgAt L i=t at hm HB HN b40
   go_wp2_with fail
   refine (valueInS_any t _ hm).mono ?_
   rintro e w2 ⟨rfl,hb2⟩
   rw [HB.out]
   go_wp2_with fail
   refine (l4Name_any t _ hm).mono ?_
   rintro e w3 ⟨rfl,hb3⟩
   rw [HN.out]
   go_wp2
   go_ret
   exact ⟨by rw [HV.out];rfl,bstep (balloc (bstep hb1 hb2) _) hb3⟩
  ·have HV:Hid (frm L (n+1) 0 i=i+1):=sumS_one ho (by show (viB (sgAt L i) || nmB (sgAt L i))=true;rw [hv,hn];rfl)
   have hin:0≤i∧i < (L.length:Int):=by
    by_cases hin:0≤i∧i < (L.length:Int)
    ·exact hin
    ·rw [sgAt_out hin] at hn
     exact absurd hn (by decide +kernel)
   obtain ⟨h0,h1⟩:=hin
   have HB:Hid (viB (sgAt L i)=false):=hv
   have HN:Hid (nmB (sgAt L i)=true):=hn
   have b40:((sgAt L i).toList == [40])=false:=ho
   clear hv hn ho
   go_enter Tryz.func54,Tryz.ntmps54
   go_wp2_with fail
   refine (l4Sign_any a cap L i _ hA hL hi).mono ?_
   rintro e w1 ⟨rfl,hb1⟩
   generalize sgAt L i=t at hm HB HN b40
   go_wp2_with fail
   refine (valueInS_any t _ hm).mono ?_
   rintro e w2 ⟨rfl,hb2⟩
   rw [HB.out]
   go_wp2_with fail
   refine (l4Name_any t _ hm).mono ?_
   rintro e w3 ⟨rfl,hb3⟩
   rw [HN.out]
   go_wp2
   go_ret
   exact ⟨by rw [HV.out];rfl,bstep (balloc (bstep hb1 hb2) _) hb3⟩
 ·have HV:Hid (frm L (n+1) 0 i=i+1):=sumS_one ho (by show (viB (sgAt L i) || nmB (sgAt L i))=true;rw [hv];rfl)
  have hin:0≤i∧i < (L.length:Int):=by
   by_cases hin:0≤i∧i < (L.length:Int)
   ·exact hin
   ·rw [sgAt_out hin] at hv
    exact absurd hv (by decide +kernel)
  obtain ⟨h0,h1⟩:=hin
  have HB:Hid (viB (sgAt L i)=true):=hv
  have b40:((sgAt L i).toList == [40])=false:=ho
  clear hv ho
  go_enter Tryz.func54,Tryz.ntmps54
  go_wp2_with fail
  refine (l4Sign_any a cap L i _ hA hL hi).mono ?_
  rintro e w1 ⟨rfl,hb1⟩
  generalize sgAt L i=t at hm HB b40
  go_wp2_with fail
  refine (valueInS_any t _ hm).mono ?_
  rintro e w2 ⟨rfl,hb2⟩
  rw [HB.out]
  go_wp2
  go_ret
  exact ⟨by rw [HV.out];rfl,balloc (bstep hb1 hb2) _⟩
set_option maxHeartbeats 4000000 in
theorem sum_op (IH:Forms a cap L n) (hA:ArgT w a L) (hL:L.length≤1048576) (hn:8 * farN L i+1≤n+1) (ho:isW (sgAt L i) [40]=true) (hh:opB (sgAt L (i+1))=true) :
  Calls Tryz.prog 54 #[.slice a L.length cap,.int .i64 i] w fun e w'=>e=.returned (.int .i64 (frm L (n+1) 0 i))∧Below w.heap.size w w':=by
 obtain ⟨h0,h1⟩:=sgAt_open ho
 have hr:=frm_good L n
 have HV:Hid (frm L (n+1) 0 i=_):=sumS_op (r:=frm L n) ho hh
 have HO:Hid (sgAt L i=⟨#[40]⟩):=isW_eq ho
 have HH:Hid (opB (sgAt L (i+1))=true):=hh
 clear ho hh
 go_enter Tryz.func54,Tryz.ntmps54
 go_wp2_with fail
 refine (l4Sign_any a cap L i _ hA hL ⟨by omega,by omega⟩).mono ?_
 rintro e wa ⟨rfl,hba⟩
 rw [HO.out]
 have hAa:=hA.call hba
 go_wp2_with fail
 refine (l4Sign_any a cap L (i+1) _ hAa hL ⟨by omega,by omega⟩).mono ?_
 rintro e wb ⟨rfl,hbb⟩
 have hAb:=hAa.call hbb
 have hBb:=bstep hba hbb
 go_wp2_with fail
 refine (l2Ops_any _).mono ?_
 rintro e wc ⟨rfl,hT,hbc⟩
 have hAc:=hAb.call hbc
 have hBc:=bstep hBb hbc
 go_wp2_with fail
 refine (l1At_any _ 0 6 opsL (sgAt L (i+1)) _ hT (by decide)).mono ?_
 rintro e w0 ⟨x,rfl,hx,rfl⟩
 have hx0:0≤x:=hx.mpr ((opB_iff _).mp HH.out)
 clear hx hT hba hbb hbc hA hAa hAb hBb HO HH
 have hA0:=hAc
 have hB0:=hBc
 have F0:Fw L (i+2) (i+2):=fw_at (by omega)
 have s0:=sub_of h0 h1 F0
 go_wp2_with fail
 refine (IH.sums 2 (i+2) _ hA0 (by decide) s0.1 s0.2.1 (by omega)).mono ?_
 rintro e w1 ⟨rfl,hb1⟩
 have hA1:=hA0.call hb1
 have hB1:=bstep hB0 hb1
 have F1:Fw L (i+2) (frm L n 10 (i+2)):=hr.fw (by decide) F0
 clear hb1
 have s1:=sub_of h0 h1 F1
 go_wp2_with fail
 refine (l4Is_any a cap L (frm L n 10 (i+2)) [41] _ hA1 hL ⟨by omega,by omega⟩ (by decide)).mono ?_
 rintro e w2 ⟨rfl,hb2⟩
 have hA2:=hA1.call hb2
 have hB2:=bstep hB1 hb2
 have F2:Fw L (i+2) (isE L (frm L n 10 (i+2)) [41]):=(isE_ends (by decide) F1).fw
 clear hb2
 go_wp2
 go_ret
 exact ⟨by rw [HV.out];rfl,hB2⟩
set_option maxHeartbeats 4000000 in
theorem sum_get (IH:Forms a cap L n) (hA:ArgT w a L) (hL:L.length≤1048576) (hn:8 * farN L i+1≤n+1) (ho:isW (sgAt L i) [40]=true) (hh:sgAt L (i+1)=⟨#[103,101,116]⟩) :
  Calls Tryz.prog 54 #[.slice a L.length cap,.int .i64 i] w fun e w'=>e=.returned (.int .i64 (frm L (n+1) 0 i))∧Below w.heap.size w w':=by
 obtain ⟨h0,h1⟩:=sgAt_open ho
 have hr:=frm_good L n
 have HV:Hid (frm L (n+1) 0 i=_):=sumS_get (r:=frm L n) ho hh
 have HO:Hid (sgAt L i=⟨#[40]⟩):=isW_eq ho
 have HH:Hid (sgAt L (i+1)=⟨#[103,101,116]⟩):=hh
 clear ho hh
 go_enter Tryz.func54,Tryz.ntmps54
 go_wp2_with fail
 refine (l4Sign_any a cap L i _ hA hL ⟨by omega,by omega⟩).mono ?_
 rintro e wa ⟨rfl,hba⟩
 rw [HO.out]
 have hAa:=hA.call hba
 go_wp2_with fail
 refine (l4Sign_any a cap L (i+1) _ hAa hL ⟨by omega,by omega⟩).mono ?_
 rintro e wb ⟨rfl,hbb⟩
 rw [HH.out]
 have hAb:=hAa.call hbb
 have hBb:=bstep hba hbb
 go_wp2_with fail
 refine (l2Ops_any _).mono ?_
 rintro e wc ⟨rfl,hT,hbc⟩
 have hAc:=hAb.call hbc
 have hBc:=bstep hBb hbc
 go_wp2_with fail
 refine (l1At_any _ 0 6 opsL ⟨#[103,101,116]⟩ _ hT (by decide)).mono ?_
 rintro e w0 ⟨x,rfl,hx,rfl⟩
 have hx0:¬ 0≤x:=fun h=>by
  have hp:=(opB_iff _).mpr (hx.mp h)
  rw [opB_lit] at hp
  exact absurd hp (by decide)
 clear hx hT hba hbb hbc hA hAa hAb hBb HO HH
 have hA0:=hAc
 have hB0:=hBc
 have F0:Fw L (i+2) (i+2):=fw_at (by omega)
 have s0:=sub_of h0 h1 F0
 go_wp2_with fail
 refine (IH.sums 2 (i+2) _ hA0 (by decide) s0.1 s0.2.1 (by omega)).mono ?_
 rintro e w1 ⟨rfl,hb1⟩
 have hA1:=hA0.call hb1
 have hB1:=bstep hB0 hb1
 have F1:Fw L (i+2) (frm L n 10 (i+2)):=hr.fw (by decide) F0
 clear hb1
 have s1:=sub_of h0 h1 F1
 go_wp2_with fail
 refine (l4Is_any a cap L (frm L n 10 (i+2)) [41] _ hA1 hL ⟨by omega,by omega⟩ (by decide)).mono ?_
 rintro e w2 ⟨rfl,hb2⟩
 have hA2:=hA1.call hb2
 have hB2:=bstep hB1 hb2
 have F2:Fw L (i+2) (isE L (frm L n 10 (i+2)) [41]):=(isE_ends (by decide) F1).fw
 clear hb2
 go_wp2
 go_ret
 exact ⟨by rw [HV.out];rfl,hB2⟩
set_option maxHeartbeats 4000000 in
theorem sum_tget (IH:Forms a cap L n) (hA:ArgT w a L) (hL:L.length≤1048576) (hn:8 * farN L i+1≤n+1) (ho:isW (sgAt L i) [40]=true) (hh:sgAt L (i+1)=⟨#[116,103,101,116]⟩) :
  Calls Tryz.prog 54 #[.slice a L.length cap,.int .i64 i] w fun e w'=>e=.returned (.int .i64 (frm L (n+1) 0 i))∧Below w.heap.size w w':=by
 obtain ⟨h0,h1⟩:=sgAt_open ho
 have hr:=frm_good L n
 have HV:Hid (frm L (n+1) 0 i=_):=sumS_tget (r:=frm L n) ho hh
 have HO:Hid (sgAt L i=⟨#[40]⟩):=isW_eq ho
 have HH:Hid (sgAt L (i+1)=⟨#[116,103,101,116]⟩):=hh
 clear ho hh
 go_enter Tryz.func54,Tryz.ntmps54
 go_wp2_with fail
 refine (l4Sign_any a cap L i _ hA hL ⟨by omega,by omega⟩).mono ?_
 rintro e wa ⟨rfl,hba⟩
 rw [HO.out]
 have hAa:=hA.call hba
 go_wp2_with fail
 refine (l4Sign_any a cap L (i+1) _ hAa hL ⟨by omega,by omega⟩).mono ?_
 rintro e wb ⟨rfl,hbb⟩
 rw [HH.out]
 have hAb:=hAa.call hbb
 have hBb:=bstep hba hbb
 go_wp2_with fail
 refine (l2Ops_any _).mono ?_
 rintro e wc ⟨rfl,hT,hbc⟩
 have hAc:=hAb.call hbc
 have hBc:=bstep hBb hbc
 go_wp2_with fail
 refine (l1At_any _ 0 6 opsL ⟨#[116,103,101,116]⟩ _ hT (by decide)).mono ?_
 rintro e w0 ⟨x,rfl,hx,rfl⟩
 have hx0:¬ 0≤x:=fun h=>by
  have hp:=(opB_iff _).mpr (hx.mp h)
  rw [opB_lit] at hp
  exact absurd hp (by decide)
 clear hx hT hba hbb hbc hA hAa hAb hBb HO HH
 have hA0:=hAc
 have hB0:=hBc
 have F0:Fw L (i+2) (i+2):=fw_at (by omega)
 have s0:=sub_of h0 h1 F0
 go_wp2_with fail
 refine (IH.sums 2 (i+2) _ hA0 (by decide) s0.1 s0.2.1 (by omega)).mono ?_
 rintro e w1 ⟨rfl,hb1⟩
 have hA1:=hA0.call hb1
 have hB1:=bstep hB0 hb1
 have F1:Fw L (i+2) (frm L n 10 (i+2)):=hr.fw (by decide) F0
 clear hb1
 have s1:=sub_of h0 h1 F1
 go_wp2_with fail
 refine (l4Is_any a cap L (frm L n 10 (i+2)) [41] _ hA1 hL ⟨by omega,by omega⟩ (by decide)).mono ?_
 rintro e w2 ⟨rfl,hb2⟩
 have hA2:=hA1.call hb2
 have hB2:=bstep hB1 hb2
 have F2:Fw L (i+2) (isE L (frm L n 10 (i+2)) [41]):=(isE_ends (by decide) F1).fw
 clear hb2
 go_wp2
 go_ret
 exact ⟨by rw [HV.out];rfl,hB2⟩
set_option maxHeartbeats 4000000 in
theorem sum_fn (IH:Forms a cap L n) (hA:ArgT w a L) (hL:L.length≤1048576) (hn:8 * farN L i+1≤n+1) (ho:isW (sgAt L i) [40]=true) (hh:sgAt L (i+1)=⟨#[102,110]⟩) :
  Calls Tryz.prog 54 #[.slice a L.length cap,.int .i64 i] w fun e w'=>e=.returned (.int .i64 (frm L (n+1) 0 i))∧Below w.heap.size w w':=by
 obtain ⟨h0,h1⟩:=sgAt_open ho
 have hr:=frm_good L n
 have HV:Hid (frm L (n+1) 0 i=_):=sumS_fn (r:=frm L n) ho hh
 have HO:Hid (sgAt L i=⟨#[40]⟩):=isW_eq ho
 have HH:Hid (sgAt L (i+1)=⟨#[102,110]⟩):=hh
 clear ho hh
 go_enter Tryz.func54,Tryz.ntmps54
 go_wp2_with fail
 refine (l4Sign_any a cap L i _ hA hL ⟨by omega,by omega⟩).mono ?_
 rintro e wa ⟨rfl,hba⟩
 rw [HO.out]
 have hAa:=hA.call hba
 go_wp2_with fail
 refine (l4Sign_any a cap L (i+1) _ hAa hL ⟨by omega,by omega⟩).mono ?_
 rintro e wb ⟨rfl,hbb⟩
 rw [HH.out]
 have hAb:=hAa.call hbb
 have hBb:=bstep hba hbb
 go_wp2_with fail
 refine (l2Ops_any _).mono ?_
 rintro e wc ⟨rfl,hT,hbc⟩
 have hAc:=hAb.call hbc
 have hBc:=bstep hBb hbc
 go_wp2_with fail
 refine (l1At_any _ 0 6 opsL ⟨#[102,110]⟩ _ hT (by decide)).mono ?_
 rintro e w0 ⟨x,rfl,hx,rfl⟩
 have hx0:¬ 0≤x:=fun h=>by
  have hp:=(opB_iff _).mpr (hx.mp h)
  rw [opB_lit] at hp
  exact absurd hp (by decide)
 clear hx hT hba hbb hbc hA hAa hAb hBb HO HH
 have hA0:=hAc
 have hB0:=hBc
 have F0:Fw L (i+2) (i+2):=fw_at (by omega)
 have s0:=sub_of h0 h1 F0
 go_wp2_with fail
 refine (l4Is_any a cap L (i+2) [40] _ hA0 hL ⟨by omega,by omega⟩ (by decide)).mono ?_
 rintro e w1 ⟨rfl,hb1⟩
 have hA1:=hA0.call hb1
 have hB1:=bstep hB0 hb1
 have F1:Fw L (i+2) (isE L (i+2) [40]):=(isE_ends (by decide) F0).fw
 clear hb1
 have s1:=sub_of h0 h1 F1
 go_wp2_with fail
 refine (IH.many 3 (isE L (i+2) [40]) _ hA1 (by decide) s1.1 s1.2.1 (by omega)).mono ?_
 rintro e w2 ⟨rfl,hb2⟩
 have hA2:=hA1.call hb2
 have hB2:=bstep hB1 hb2
 have F2:Fw L (i+2) (frm L n 7 (isE L (i+2) [40])):=hr.fw (by decide) F1
 clear hb2
 have s2:=sub_of h0 h1 F2
 go_wp2_with fail
 refine (l4Is_any a cap L (frm L n 7 (isE L (i+2) [40])) [41] _ hA2 hL ⟨by omega,by omega⟩ (by decide)).mono ?_
 rintro e w3 ⟨rfl,hb3⟩
 have hA3:=hA2.call hb3
 have hB3:=bstep hB2 hb3
 have F3:Fw L (i+2) (isE L (frm L n 7 (isE L (i+2) [40])) [41]):=(isE_ends (by decide) F2).fw
 clear hb3
 have s3:=sub_of h0 h1 F3
 go_wp2_with fail
 refine (IH.many 2 (isE L (frm L n 7 (isE L (i+2) [40])) [41]) _ hA3 (by decide) s3.1 s3.2.1 (by omega)).mono ?_
 rintro e w4 ⟨rfl,hb4⟩
 have hA4:=hA3.call hb4
 have hB4:=bstep hB3 hb4
 have F4:Fw L (i+2) (frm L n 6 (isE L (frm L n 7 (isE L (i+2) [40])) [41])):=hr.fw (by decide) F3
 clear hb4
 have s4:=sub_of h0 h1 F4
 go_wp2_with fail
 refine (l4Is_any a cap L (frm L n 6 (isE L (frm L n 7 (isE L (i+2) [40])) [41])) [41] _ hA4 hL ⟨by omega,by omega⟩ (by decide)).mono ?_
 rintro e w5 ⟨rfl,hb5⟩
 have hA5:=hA4.call hb5
 have hB5:=bstep hB4 hb5
 have F5:Fw L (i+2) (isE L (frm L n 6 (isE L (frm L n 7 (isE L (i+2) [40])) [41])) [41]):=(isE_ends (by decide) F4).fw
 clear hb5
 go_wp2
 go_ret
 exact ⟨by rw [HV.out];rfl,hB5⟩
set_option maxHeartbeats 4000000 in
theorem sum_call (IH:Forms a cap L n) (hA:ArgT w a L) (hL:L.length≤1048576) (hn:8 * farN L i+1≤n+1) (ho:isW (sgAt L i) [40]=true) (hh:sgAt L (i+1)=⟨#[99,97,108,108]⟩) :
  Calls Tryz.prog 54 #[.slice a L.length cap,.int .i64 i] w fun e w'=>e=.returned (.int .i64 (frm L (n+1) 0 i))∧Below w.heap.size w w':=by
 obtain ⟨h0,h1⟩:=sgAt_open ho
 have hr:=frm_good L n
 have HV:Hid (frm L (n+1) 0 i=_):=sumS_call (r:=frm L n) ho hh
 have HO:Hid (sgAt L i=⟨#[40]⟩):=isW_eq ho
 have HH:Hid (sgAt L (i+1)=⟨#[99,97,108,108]⟩):=hh
 clear ho hh
 go_enter Tryz.func54,Tryz.ntmps54
 go_wp2_with fail
 refine (l4Sign_any a cap L i _ hA hL ⟨by omega,by omega⟩).mono ?_
 rintro e wa ⟨rfl,hba⟩
 rw [HO.out]
 have hAa:=hA.call hba
 go_wp2_with fail
 refine (l4Sign_any a cap L (i+1) _ hAa hL ⟨by omega,by omega⟩).mono ?_
 rintro e wb ⟨rfl,hbb⟩
 rw [HH.out]
 have hAb:=hAa.call hbb
 have hBb:=bstep hba hbb
 go_wp2_with fail
 refine (l2Ops_any _).mono ?_
 rintro e wc ⟨rfl,hT,hbc⟩
 have hAc:=hAb.call hbc
 have hBc:=bstep hBb hbc
 go_wp2_with fail
 refine (l1At_any _ 0 6 opsL ⟨#[99,97,108,108]⟩ _ hT (by decide)).mono ?_
 rintro e w0 ⟨x,rfl,hx,rfl⟩
 have hx0:¬ 0≤x:=fun h=>by
  have hp:=(opB_iff _).mpr (hx.mp h)
  rw [opB_lit] at hp
  exact absurd hp (by decide)
 clear hx hT hba hbb hbc hA hAa hAb hBb HO HH
 have hA0:=hAc
 have hB0:=hBc
 have F0:Fw L (i+2) (i+2):=fw_at (by omega)
 have s0:=sub_of h0 h1 F0
 go_wp2_with fail
 refine (IH.sum (i+2) _ hA0 ⟨by omega,by omega⟩ (by omega)).mono ?_
 rintro e w1 ⟨rfl,hb1⟩
 have hA1:=hA0.call hb1
 have hB1:=bstep hB0 hb1
 have F1:Fw L (i+2) (frm L n 0 (i+2)):=(hr.ends (by decide) F0).fw
 clear hb1
 have s1:=sub_of h0 h1 F1
 go_wp2_with fail
 refine (IH.many 0 (frm L n 0 (i+2)) _ hA1 (by decide) s1.1 s1.2.1 (by omega)).mono ?_
 rintro e w2 ⟨rfl,hb2⟩
 have hA2:=hA1.call hb2
 have hB2:=bstep hB1 hb2
 have F2:Fw L (i+2) (frm L n 4 (frm L n 0 (i+2))):=hr.fw (by decide) F1
 clear hb2
 have s2:=sub_of h0 h1 F2
 go_wp2_with fail
 refine (l4Is_any a cap L (frm L n 4 (frm L n 0 (i+2))) [41] _ hA2 hL ⟨by omega,by omega⟩ (by decide)).mono ?_
 rintro e w3 ⟨rfl,hb3⟩
 have hA3:=hA2.call hb3
 have hB3:=bstep hB2 hb3
 have F3:Fw L (i+2) (isE L (frm L n 4 (frm L n 0 (i+2))) [41]):=(isE_ends (by decide) F2).fw
 clear hb3
 go_wp2
 go_ret
 exact ⟨by rw [HV.out];rfl,hB3⟩
set_option maxHeartbeats 4000000 in
theorem sum_thing (IH:Forms a cap L n) (hA:ArgT w a L) (hL:L.length≤1048576) (hn:8 * farN L i+1≤n+1) (ho:isW (sgAt L i) [40]=true) (hh:sgAt L (i+1)=⟨#[116,104,105,110,103]⟩) :
  Calls Tryz.prog 54 #[.slice a L.length cap,.int .i64 i] w fun e w'=>e=.returned (.int .i64 (frm L (n+1) 0 i))∧Below w.heap.size w w':=by
 obtain ⟨h0,h1⟩:=sgAt_open ho
 have hr:=frm_good L n
 have HV:Hid (frm L (n+1) 0 i=_):=sumS_thing (r:=frm L n) ho hh
 have HO:Hid (sgAt L i=⟨#[40]⟩):=isW_eq ho
 have HH:Hid (sgAt L (i+1)=⟨#[116,104,105,110,103]⟩):=hh
 clear ho hh
 go_enter Tryz.func54,Tryz.ntmps54
 go_wp2_with fail
 refine (l4Sign_any a cap L i _ hA hL ⟨by omega,by omega⟩).mono ?_
 rintro e wa ⟨rfl,hba⟩
 rw [HO.out]
 have hAa:=hA.call hba
 go_wp2_with fail
 refine (l4Sign_any a cap L (i+1) _ hAa hL ⟨by omega,by omega⟩).mono ?_
 rintro e wb ⟨rfl,hbb⟩
 rw [HH.out]
 have hAb:=hAa.call hbb
 have hBb:=bstep hba hbb
 go_wp2_with fail
 refine (l2Ops_any _).mono ?_
 rintro e wc ⟨rfl,hT,hbc⟩
 have hAc:=hAb.call hbc
 have hBc:=bstep hBb hbc
 go_wp2_with fail
 refine (l1At_any _ 0 6 opsL ⟨#[116,104,105,110,103]⟩ _ hT (by decide)).mono ?_
 rintro e w0 ⟨x,rfl,hx,rfl⟩
 have hx0:¬ 0≤x:=fun h=>by
  have hp:=(opB_iff _).mpr (hx.mp h)
  rw [opB_lit] at hp
  exact absurd hp (by decide)
 clear hx hT hba hbb hbc hA hAa hAb hBb HO HH
 have hA0:=hAc
 have hB0:=hBc
 have F0:Fw L (i+2) (i+2):=fw_at (by omega)
 have s0:=sub_of h0 h1 F0
 go_wp2_with fail
 refine (IH.many 0 (i+2) _ hA0 (by decide) s0.1 s0.2.1 (by omega)).mono ?_
 rintro e w1 ⟨rfl,hb1⟩
 have hA1:=hA0.call hb1
 have hB1:=bstep hB0 hb1
 have F1:Fw L (i+2) (frm L n 4 (i+2)):=hr.fw (by decide) F0
 clear hb1
 have s1:=sub_of h0 h1 F1
 go_wp2_with fail
 refine (l4Is_any a cap L (frm L n 4 (i+2)) [41] _ hA1 hL ⟨by omega,by omega⟩ (by decide)).mono ?_
 rintro e w2 ⟨rfl,hb2⟩
 have hA2:=hA1.call hb2
 have hB2:=bstep hB1 hb2
 have F2:Fw L (i+2) (isE L (frm L n 4 (i+2)) [41]):=(isE_ends (by decide) F1).fw
 clear hb2
 go_wp2
 go_ret
 exact ⟨by rw [HV.out];rfl,hB2⟩
set_option maxHeartbeats 4000000 in
theorem sum_join (IH:Forms a cap L n) (hA:ArgT w a L) (hL:L.length≤1048576) (hn:8 * farN L i+1≤n+1) (ho:isW (sgAt L i) [40]=true) (hh:sgAt L (i+1)=⟨#[106,111,105,110]⟩) :
  Calls Tryz.prog 54 #[.slice a L.length cap,.int .i64 i] w fun e w'=>e=.returned (.int .i64 (frm L (n+1) 0 i))∧Below w.heap.size w w':=by
 obtain ⟨h0,h1⟩:=sgAt_open ho
 have hr:=frm_good L n
 have HV:Hid (frm L (n+1) 0 i=_):=sumS_join (r:=frm L n) ho hh
 have HO:Hid (sgAt L i=⟨#[40]⟩):=isW_eq ho
 have HH:Hid (sgAt L (i+1)=⟨#[106,111,105,110]⟩):=hh
 clear ho hh
 go_enter Tryz.func54,Tryz.ntmps54
 go_wp2_with fail
 refine (l4Sign_any a cap L i _ hA hL ⟨by omega,by omega⟩).mono ?_
 rintro e wa ⟨rfl,hba⟩
 rw [HO.out]
 have hAa:=hA.call hba
 go_wp2_with fail
 refine (l4Sign_any a cap L (i+1) _ hAa hL ⟨by omega,by omega⟩).mono ?_
 rintro e wb ⟨rfl,hbb⟩
 rw [HH.out]
 have hAb:=hAa.call hbb
 have hBb:=bstep hba hbb
 go_wp2_with fail
 refine (l2Ops_any _).mono ?_
 rintro e wc ⟨rfl,hT,hbc⟩
 have hAc:=hAb.call hbc
 have hBc:=bstep hBb hbc
 go_wp2_with fail
 refine (l1At_any _ 0 6 opsL ⟨#[106,111,105,110]⟩ _ hT (by decide)).mono ?_
 rintro e w0 ⟨x,rfl,hx,rfl⟩
 have hx0:¬ 0≤x:=fun h=>by
  have hp:=(opB_iff _).mpr (hx.mp h)
  rw [opB_lit] at hp
  exact absurd hp (by decide)
 clear hx hT hba hbb hbc hA hAa hAb hBb HO HH
 have hA0:=hAc
 have hB0:=hBc
 have F0:Fw L (i+2) (i+2):=fw_at (by omega)
 have s0:=sub_of h0 h1 F0
 go_wp2_with fail
 refine (IH.many 0 (i+2) _ hA0 (by decide) s0.1 s0.2.1 (by omega)).mono ?_
 rintro e w1 ⟨rfl,hb1⟩
 have hA1:=hA0.call hb1
 have hB1:=bstep hB0 hb1
 have F1:Fw L (i+2) (frm L n 4 (i+2)):=hr.fw (by decide) F0
 clear hb1
 have s1:=sub_of h0 h1 F1
 go_wp2_with fail
 refine (l4Is_any a cap L (frm L n 4 (i+2)) [41] _ hA1 hL ⟨by omega,by omega⟩ (by decide)).mono ?_
 rintro e w2 ⟨rfl,hb2⟩
 have hA2:=hA1.call hb2
 have hB2:=bstep hB1 hb2
 have F2:Fw L (i+2) (isE L (frm L n 4 (i+2)) [41]):=(isE_ends (by decide) F1).fw
 clear hb2
 go_wp2
 go_ret
 exact ⟨by rw [HV.out];rfl,hB2⟩
set_option maxHeartbeats 4000000 in
theorem sum_table (_IH:Forms a cap L n) (hA:ArgT w a L) (hL:L.length≤1048576) (_hn:8 * farN L i+1≤n+1) (ho:isW (sgAt L i) [40]=true) (hh:sgAt L (i+1)=⟨#[116,97,98,108,101]⟩) :
  Calls Tryz.prog 54 #[.slice a L.length cap,.int .i64 i] w fun e w'=>e=.returned (.int .i64 (frm L (n+1) 0 i))∧Below w.heap.size w w':=by
 obtain ⟨h0,h1⟩:=sgAt_open ho
 have hr:=frm_good L n
 have HV:Hid (frm L (n+1) 0 i=_):=sumS_table (r:=frm L n) ho hh
 have HO:Hid (sgAt L i=⟨#[40]⟩):=isW_eq ho
 have HH:Hid (sgAt L (i+1)=⟨#[116,97,98,108,101]⟩):=hh
 clear ho hh
 go_enter Tryz.func54,Tryz.ntmps54
 go_wp2_with fail
 refine (l4Sign_any a cap L i _ hA hL ⟨by omega,by omega⟩).mono ?_
 rintro e wa ⟨rfl,hba⟩
 rw [HO.out]
 have hAa:=hA.call hba
 go_wp2_with fail
 refine (l4Sign_any a cap L (i+1) _ hAa hL ⟨by omega,by omega⟩).mono ?_
 rintro e wb ⟨rfl,hbb⟩
 rw [HH.out]
 have hAb:=hAa.call hbb
 have hBb:=bstep hba hbb
 go_wp2_with fail
 refine (l2Ops_any _).mono ?_
 rintro e wc ⟨rfl,hT,hbc⟩
 have hAc:=hAb.call hbc
 have hBc:=bstep hBb hbc
 go_wp2_with fail
 refine (l1At_any _ 0 6 opsL ⟨#[116,97,98,108,101]⟩ _ hT (by decide)).mono ?_
 rintro e w0 ⟨x,rfl,hx,rfl⟩
 have hx0:¬ 0≤x:=fun h=>by
  have hp:=(opB_iff _).mpr (hx.mp h)
  rw [opB_lit] at hp
  exact absurd hp (by decide)
 clear hx hT hba hbb hbc hA hAa hAb hBb HO HH
 have hA0:=hAc
 have hB0:=hBc
 have F0:Fw L (i+2) (i+2):=fw_at (by omega)
 have s0:=sub_of h0 h1 F0
 go_wp2_with fail
 refine (l4Is_any a cap L (i+2) [41] _ hA0 hL ⟨by omega,by omega⟩ (by decide)).mono ?_
 rintro e w1 ⟨rfl,hb1⟩
 have hA1:=hA0.call hb1
 have hB1:=bstep hB0 hb1
 have F1:Fw L (i+2) (isE L (i+2) [41]):=(isE_ends (by decide) F0).fw
 clear hb1
 go_wp2
 go_ret
 exact ⟨by rw [HV.out];rfl,hB1⟩
set_option maxHeartbeats 4000000 in
theorem sum_hget (IH:Forms a cap L n) (hA:ArgT w a L) (hL:L.length≤1048576) (hn:8 * farN L i+1≤n+1) (ho:isW (sgAt L i) [40]=true) (hh:sgAt L (i+1)=⟨#[104,103,101,116]⟩) :
  Calls Tryz.prog 54 #[.slice a L.length cap,.int .i64 i] w fun e w'=>e=.returned (.int .i64 (frm L (n+1) 0 i))∧Below w.heap.size w w':=by
 obtain ⟨h0,h1⟩:=sgAt_open ho
 have hr:=frm_good L n
 have HV:Hid (frm L (n+1) 0 i=_):=sumS_hget (r:=frm L n) ho hh
 have HO:Hid (sgAt L i=⟨#[40]⟩):=isW_eq ho
 have HH:Hid (sgAt L (i+1)=⟨#[104,103,101,116]⟩):=hh
 clear ho hh
 go_enter Tryz.func54,Tryz.ntmps54
 go_wp2_with fail
 refine (l4Sign_any a cap L i _ hA hL ⟨by omega,by omega⟩).mono ?_
 rintro e wa ⟨rfl,hba⟩
 rw [HO.out]
 have hAa:=hA.call hba
 go_wp2_with fail
 refine (l4Sign_any a cap L (i+1) _ hAa hL ⟨by omega,by omega⟩).mono ?_
 rintro e wb ⟨rfl,hbb⟩
 rw [HH.out]
 have hAb:=hAa.call hbb
 have hBb:=bstep hba hbb
 go_wp2_with fail
 refine (l2Ops_any _).mono ?_
 rintro e wc ⟨rfl,hT,hbc⟩
 have hAc:=hAb.call hbc
 have hBc:=bstep hBb hbc
 go_wp2_with fail
 refine (l1At_any _ 0 6 opsL ⟨#[104,103,101,116]⟩ _ hT (by decide)).mono ?_
 rintro e w0 ⟨x,rfl,hx,rfl⟩
 have hx0:¬ 0≤x:=fun h=>by
  have hp:=(opB_iff _).mpr (hx.mp h)
  rw [opB_lit] at hp
  exact absurd hp (by decide)
 clear hx hT hba hbb hbc hA hAa hAb hBb HO HH
 have hA0:=hAc
 have hB0:=hBc
 have F0:Fw L (i+2) (i+2):=fw_at (by omega)
 have s0:=sub_of h0 h1 F0
 go_wp2_with fail
 refine (l4NameEnd_any a cap L (i+2) _ hA0 hL ⟨by omega,by omega⟩).mono ?_
 rintro e w1 ⟨rfl,hb1⟩
 have hA1:=hA0.call hb1
 have hB1:=bstep hB0 hb1
 have F1:Fw L (i+2) (nmE L (i+2)):=(nmE_ends F0).fw
 clear hb1
 have s1:=sub_of h0 h1 F1
 go_wp2_with fail
 refine (IH.sum (nmE L (i+2)) _ hA1 ⟨by omega,by omega⟩ (by omega)).mono ?_
 rintro e w2 ⟨rfl,hb2⟩
 have hA2:=hA1.call hb2
 have hB2:=bstep hB1 hb2
 have F2:Fw L (i+2) (frm L n 0 (nmE L (i+2))):=(hr.ends (by decide) F1).fw
 clear hb2
 have s2:=sub_of h0 h1 F2
 go_wp2_with fail
 refine (l4Is_any a cap L (frm L n 0 (nmE L (i+2))) [41] _ hA2 hL ⟨by omega,by omega⟩ (by decide)).mono ?_
 rintro e w3 ⟨rfl,hb3⟩
 have hA3:=hA2.call hb3
 have hB3:=bstep hB2 hb3
 have F3:Fw L (i+2) (isE L (frm L n 0 (nmE L (i+2))) [41]):=(isE_ends (by decide) F2).fw
 clear hb3
 go_wp2
 go_ret
 exact ⟨by rw [HV.out];rfl,hB3⟩
set_option maxHeartbeats 4000000 in
theorem sum_not (hA:ArgT w a L) (hL:L.length≤1048576) (ho:isW (sgAt L i) [40]=true) (hop:opB (sgAt L (i+1))=false) (hget:sgAt L (i+1)≠⟨#[103,101,116]⟩) (htget:sgAt L (i+1)≠⟨#[116,103,101,116]⟩) (hfn:sgAt L (i+1)≠⟨#[102,110]⟩) (hcall:sgAt L (i+1)≠⟨#[99,97,108,108]⟩) (hthing:sgAt L (i+1)≠⟨#[116,104,105,110,103]⟩) (hjoin:sgAt L (i+1)≠⟨#[106,111,105,110]⟩) (htable:sgAt L (i+1)≠⟨#[116,97,98,108,101]⟩) (hhget:sgAt L (i+1)≠⟨#[104,103,101,116]⟩) :
  Calls Tryz.prog 54 #[.slice a L.length cap,.int .i64 i] w fun e w'=>e=.returned (.int .i64 (frm L (n+1) 0 i))∧Below w.heap.size w w':=by
 obtain ⟨h0,h1⟩:=sgAt_open ho
 have HV:Hid (frm L (n+1) 0 i=-1):=sumS_not ho hop hget htget hfn hcall hthing hjoin htable hhget
 have HO:Hid (sgAt L i=⟨#[40]⟩):=isW_eq ho
 have HH:Hid (opB (sgAt L (i+1))=false):=hop
 have qget:((sgAt L (i+1)).toList == [103,101,116])=false:=isW_no hget
 have qtget:((sgAt L (i+1)).toList == [116,103,101,116])=false:=isW_no htget
 have qfn:((sgAt L (i+1)).toList == [102,110])=false:=isW_no hfn
 have qcall:((sgAt L (i+1)).toList == [99,97,108,108])=false:=isW_no hcall
 have qthing:((sgAt L (i+1)).toList == [116,104,105,110,103])=false:=isW_no hthing
 have qjoin:((sgAt L (i+1)).toList == [106,111,105,110])=false:=isW_no hjoin
 have qtable:((sgAt L (i+1)).toList == [116,97,98,108,101])=false:=isW_no htable
 have qhget:((sgAt L (i+1)).toList == [104,103,101,116])=false:=isW_no hhget
 clear ho hop hget htget hfn hcall hthing hjoin htable hhget
 go_enter Tryz.func54,Tryz.ntmps54
 go_wp2_with fail
 refine (l4Sign_any a cap L i _ hA hL ⟨by omega,by omega⟩).mono ?_
 rintro e wa ⟨rfl,hba⟩
 rw [HO.out]
 have hAa:=hA.call hba
 go_wp2_with fail
 refine (l4Sign_any a cap L (i+1) _ hAa hL ⟨by omega,by omega⟩).mono ?_
 rintro e wb ⟨rfl,hbb⟩
 have hBb:=bstep hba hbb
 generalize sgAt L (i+1)=t at HH qget qtget qfn qcall qthing qjoin qtable qhget
 go_wp2_with fail
 refine (l2Ops_any _).mono ?_
 rintro e wc ⟨rfl,hT,hbc⟩
 have hBc:=bstep hBb hbc
 go_wp2_with fail
 refine (l1At_any _ 0 6 opsL t _ hT (by decide)).mono ?_
 rintro e w0 ⟨x,rfl,hx,rfl⟩
 have hx0:¬ 0≤x:=fun h=>by
  have hp:=(opB_iff _).mpr (hx.mp h)
  rw [HH.out] at hp
  exact absurd hp (by decide)
 clear hx hT hba hbb hbc HO HH
 go_wp2
 go_ret
 exact ⟨by rw [HV.out];rfl,hBc⟩
theorem sum_all (IH:Forms a cap L n) (hA:ArgT w a L) (hL:L.length≤1048576) (hi:I64 i) (hn:8 * farN L i+1≤n+1) :
  Calls Tryz.prog 54 #[.slice a L.length cap,.int .i64 i] w fun e w'=>e=.returned (.int .i64 (frm L (n+1) 0 i))∧Below w.heap.size w w':=by
 cases ho:isW (sgAt L i) [40]
 ·exact sum_flat hA hL hi ho
 by_cases hop':opB (sgAt L (i+1))=true
 ·exact sum_op IH hA hL hn ho hop'
 have hop:opB (sgAt L (i+1))=false:=Bool.eq_false_iff.mpr hop'
 by_cases hget:sgAt L (i+1)=⟨#[103,101,116]⟩
 ·exact sum_get IH hA hL hn ho hget
 by_cases htget:sgAt L (i+1)=⟨#[116,103,101,116]⟩
 ·exact sum_tget IH hA hL hn ho htget
 by_cases hfn:sgAt L (i+1)=⟨#[102,110]⟩
 ·exact sum_fn IH hA hL hn ho hfn
 by_cases hcall:sgAt L (i+1)=⟨#[99,97,108,108]⟩
 ·exact sum_call IH hA hL hn ho hcall
 by_cases hthing:sgAt L (i+1)=⟨#[116,104,105,110,103]⟩
 ·exact sum_thing IH hA hL hn ho hthing
 by_cases hjoin:sgAt L (i+1)=⟨#[106,111,105,110]⟩
 ·exact sum_join IH hA hL hn ho hjoin
 by_cases htable:sgAt L (i+1)=⟨#[116,97,98,108,101]⟩
 ·exact sum_table IH hA hL hn ho htable
 by_cases hhget:sgAt L (i+1)=⟨#[104,103,101,116]⟩
 ·exact sum_hget IH hA hL hn ho hhget
 exact sum_not hA hL ho hop hget htget hfn hcall hthing hjoin htable hhget
end
end Go.Proofs.YtdgihicpjonjgaaGreatDoor
namespace Go.Proofs.YtdgihicpjonjgaaGreatDoor
open Go.RowKit
section
variable {a:Option Addr} {cap:Nat} {L:List ByteArray} {n:Nat} {i:Int} {w:World}
theorem deedS_of {L:List ByteArray} {r:Nat→Int→Int} {f:Bool} {i:Int} {h:ByteArray} (ho:isW (sgAt L i) [40]=true) (hh:sgAt L (i+1)=h) (hd:(decB h && !f)=false):deedS L r f i=deedH L r h (i+2):=by
 unfold deedS
 rw [if_pos ho,hh,hd]
 rfl
theorem deedS_bar {L:List ByteArray} {r:Nat→Int→Int} {i:Int} {h:ByteArray} (ho:isW (sgAt L i) [40]=true) (hh:sgAt L (i+1)=h) (hd:decB h=true):deedS L r false i=-1:=by
 unfold deedS
 rw [if_pos ho,hh,hd]
 rfl
theorem deedS_no {L:List ByteArray} {r:Nat→Int→Int} {f:Bool} {i:Int} (ho:isW (sgAt L i) [40]=false):deedS L r f i=-1:=by
 unfold deedS
 rw [ho]
 rfl
theorem frm_deed (f:Bool):frm L (n+1) (if f then 1 else 2) i=deedS L (frm L n) f i:=by cases f <;> rfl
set_option maxHeartbeats 1000000 in
theorem deed_no (f:Bool) (hA:ArgT w a L) (hL:L.length≤1048576) (hi:I64 i) (ho:isW (sgAt L i) [40]=false) :
  Calls Tryz.prog 35 #[.slice a L.length cap,.int .i64 i,.bool f] w fun e w'=>e=.returned (.int .i64 (frm L (n+1) (if f then 1 else 2) i))∧Below w.heap.size w w':=by
 rw [frm_deed,deedS_no ho]
 have b40:((sgAt L i).toList == [40])=false:=ho
 clear ho
 go_enter Tryz.func35,Tryz.ntmps35
 go_wp2_with fail
 refine (l4Sign_any a cap L i _ hA hL hi).mono ?_
 rintro e w1 ⟨rfl,hb1⟩
 generalize sgAt L i=t at b40
 go_wp2
 go_ret
 exact ⟨rfl,hb1⟩
set_option maxHeartbeats 4000000 in
theorem deed_let (IH:Forms a cap L n) (hA:ArgT w a L) (hL:L.length≤1048576) (hn:8 * farN L i+1≤n+1) (ho:isW (sgAt L i) [40]=true) (hh:sgAt L (i+1)=⟨#[108,101,116]⟩) :
  Calls Tryz.prog 35 #[.slice a L.length cap,.int .i64 i,.bool true] w fun e w'=>e=.returned (.int .i64 (frm L (n+1) (if true then 1 else 2) i))∧Below w.heap.size w w':=by
 obtain ⟨h0,h1⟩:=sgAt_open ho
 have hr:=frm_good L n
 rw [frm_deed,deedS_of (f:=true) ho hh (by rw [decB_let];rfl),deedH_let]
 have HO:Hid (sgAt L i=⟨#[40]⟩):=isW_eq ho
 have HH:Hid (sgAt L (i+1)=⟨#[108,101,116]⟩):=hh
 clear ho hh
 go_enter Tryz.func35,Tryz.ntmps35
 go_wp2_with fail
 refine (l4Sign_any a cap L i _ hA hL ⟨by omega,by omega⟩).mono ?_
 rintro e wa ⟨rfl,hba⟩
 rw [HO.out]
 have hAa:=hA.call hba
 go_wp2_with fail
 refine (l4Sign_any a cap L (i+1) _ hAa hL ⟨by omega,by omega⟩).mono ?_
 rintro e w0 ⟨rfl,hbb⟩
 rw [HH.out]
 have hA0:=hAa.call hbb
 have hB0:=bstep hba hbb
 clear hba hbb hA hAa HO HH
 have F0:Fw L (i+2) (i+2):=fw_at (by omega)
 have s0:=sub_of h0 h1 F0
 go_wp2_with fail
 refine (l4NameEnd_any a cap L (i+2) _ hA0 hL ⟨by omega,by omega⟩).mono ?_
 rintro e w1 ⟨rfl,hb1⟩
 have hA1:=hA0.call hb1
 have hB1:=bstep hB0 hb1
 have F1:Fw L (i+2) (nmE L (i+2)):=(nmE_ends F0).fw
 clear hb1
 have s1:=sub_of h0 h1 F1
 go_wp2_with fail
 refine (IH.sum (nmE L (i+2)) _ hA1 ⟨by omega,by omega⟩ (by omega)).mono ?_
 rintro e w2 ⟨rfl,hb2⟩
 have hA2:=hA1.call hb2
 have hB2:=bstep hB1 hb2
 have F2:Fw L (i+2) (frm L n 0 (nmE L (i+2))):=(hr.ends (by decide) F1).fw
 clear hb2
 have s2:=sub_of h0 h1 F2
 go_wp2_with fail
 refine (l4Is_any a cap L (frm L n 0 (nmE L (i+2))) [41] _ hA2 hL ⟨by omega,by omega⟩ (by decide)).mono ?_
 rintro e w3 ⟨rfl,hb3⟩
 have hA3:=hA2.call hb3
 have hB3:=bstep hB2 hb3
 have F3:Fw L (i+2) (isE L (frm L n 0 (nmE L (i+2))) [41]):=(isE_ends (by decide) F2).fw
 clear hb3
 go_wp2
 go_ret
 exact ⟨rfl,hB3⟩
set_option maxHeartbeats 4000000 in
theorem deed_let_bar (hA:ArgT w a L) (hL:L.length≤1048576) (ho:isW (sgAt L i) [40]=true) (hh:sgAt L (i+1)=⟨#[108,101,116]⟩) :
  Calls Tryz.prog 35 #[.slice a L.length cap,.int .i64 i,.bool false] w fun e w'=>e=.returned (.int .i64 (frm L (n+1) (if false then 1 else 2) i))∧Below w.heap.size w w':=by
 obtain ⟨h0,h1⟩:=sgAt_open ho
 rw [frm_deed,deedS_bar ho hh decB_let]
 have HO:Hid (sgAt L i=⟨#[40]⟩):=isW_eq ho
 have HH:Hid (sgAt L (i+1)=⟨#[108,101,116]⟩):=hh
 clear ho hh
 go_enter Tryz.func35,Tryz.ntmps35
 go_wp2_with fail
 refine (l4Sign_any a cap L i _ hA hL ⟨by omega,by omega⟩).mono ?_
 rintro e wa ⟨rfl,hba⟩
 rw [HO.out]
 have hAa:=hA.call hba
 go_wp2_with fail
 refine (l4Sign_any a cap L (i+1) _ hAa hL ⟨by omega,by omega⟩).mono ?_
 rintro e w0 ⟨rfl,hbb⟩
 rw [HH.out]
 have hB0:=bstep hba hbb
 go_wp2
 go_ret
 exact ⟨rfl,hB0⟩
set_option maxHeartbeats 4000000 in
theorem deed_set (f:Bool) (IH:Forms a cap L n) (hA:ArgT w a L) (hL:L.length≤1048576) (hn:8 * farN L i+1≤n+1) (ho:isW (sgAt L i) [40]=true) (hh:sgAt L (i+1)=⟨#[115,101,116]⟩) :
  Calls Tryz.prog 35 #[.slice a L.length cap,.int .i64 i,.bool f] w fun e w'=>e=.returned (.int .i64 (frm L (n+1) (if f then 1 else 2) i))∧Below w.heap.size w w':=by
 obtain ⟨h0,h1⟩:=sgAt_open ho
 have hr:=frm_good L n
 rw [frm_deed,deedS_of (f:=f) ho hh (by rw [decB_set];rfl),deedH_set]
 have HO:Hid (sgAt L i=⟨#[40]⟩):=isW_eq ho
 have HH:Hid (sgAt L (i+1)=⟨#[115,101,116]⟩):=hh
 clear ho hh
 go_enter Tryz.func35,Tryz.ntmps35
 go_wp2_with fail
 refine (l4Sign_any a cap L i _ hA hL ⟨by omega,by omega⟩).mono ?_
 rintro e wa ⟨rfl,hba⟩
 rw [HO.out]
 have hAa:=hA.call hba
 go_wp2_with fail
 refine (l4Sign_any a cap L (i+1) _ hAa hL ⟨by omega,by omega⟩).mono ?_
 rintro e w0 ⟨rfl,hbb⟩
 rw [HH.out]
 have hA0:=hAa.call hbb
 have hB0:=bstep hba hbb
 clear hba hbb hA hAa HO HH
 have F0:Fw L (i+2) (i+2):=fw_at (by omega)
 have s0:=sub_of h0 h1 F0
 go_wp2_with fail
 refine (l4NameEnd_any a cap L (i+2) _ hA0 hL ⟨by omega,by omega⟩).mono ?_
 rintro e w1 ⟨rfl,hb1⟩
 have hA1:=hA0.call hb1
 have hB1:=bstep hB0 hb1
 have F1:Fw L (i+2) (nmE L (i+2)):=(nmE_ends F0).fw
 clear hb1
 have s1:=sub_of h0 h1 F1
 go_wp2_with fail
 refine (IH.sum (nmE L (i+2)) _ hA1 ⟨by omega,by omega⟩ (by omega)).mono ?_
 rintro e w2 ⟨rfl,hb2⟩
 have hA2:=hA1.call hb2
 have hB2:=bstep hB1 hb2
 have F2:Fw L (i+2) (frm L n 0 (nmE L (i+2))):=(hr.ends (by decide) F1).fw
 clear hb2
 have s2:=sub_of h0 h1 F2
 go_wp2_with fail
 refine (l4Is_any a cap L (frm L n 0 (nmE L (i+2))) [41] _ hA2 hL ⟨by omega,by omega⟩ (by decide)).mono ?_
 rintro e w3 ⟨rfl,hb3⟩
 have hA3:=hA2.call hb3
 have hB3:=bstep hB2 hb3
 have F3:Fw L (i+2) (isE L (frm L n 0 (nmE L (i+2))) [41]):=(isE_ends (by decide) F2).fw
 clear hb3
 go_wp2
 go_ret
 exact ⟨rfl,hB3⟩
set_option maxHeartbeats 4000000 in
theorem deed_take (IH:Forms a cap L n) (hA:ArgT w a L) (hL:L.length≤1048576) (hn:8 * farN L i+1≤n+1) (ho:isW (sgAt L i) [40]=true) (hh:sgAt L (i+1)=⟨#[116,97,107,101]⟩) :
  Calls Tryz.prog 35 #[.slice a L.length cap,.int .i64 i,.bool true] w fun e w'=>e=.returned (.int .i64 (frm L (n+1) (if true then 1 else 2) i))∧Below w.heap.size w w':=by
 obtain ⟨h0,h1⟩:=sgAt_open ho
 have hr:=frm_good L n
 rw [frm_deed,deedS_of (f:=true) ho hh (by rw [decB_take];rfl),deedH_take]
 have HO:Hid (sgAt L i=⟨#[40]⟩):=isW_eq ho
 have HH:Hid (sgAt L (i+1)=⟨#[116,97,107,101]⟩):=hh
 clear ho hh
 go_enter Tryz.func35,Tryz.ntmps35
 go_wp2_with fail
 refine (l4Sign_any a cap L i _ hA hL ⟨by omega,by omega⟩).mono ?_
 rintro e wa ⟨rfl,hba⟩
 rw [HO.out]
 have hAa:=hA.call hba
 go_wp2_with fail
 refine (l4Sign_any a cap L (i+1) _ hAa hL ⟨by omega,by omega⟩).mono ?_
 rintro e w0 ⟨rfl,hbb⟩
 rw [HH.out]
 have hA0:=hAa.call hbb
 have hB0:=bstep hba hbb
 clear hba hbb hA hAa HO HH
 have F0:Fw L (i+2) (i+2):=fw_at (by omega)
 have s0:=sub_of h0 h1 F0
 go_wp2_with fail
 refine (l4Is_any a cap L (i+2) [40] _ hA0 hL ⟨by omega,by omega⟩ (by decide)).mono ?_
 rintro e w1 ⟨rfl,hb1⟩
 have hA1:=hA0.call hb1
 have hB1:=bstep hB0 hb1
 have F1:Fw L (i+2) (isE L (i+2) [40]):=(isE_ends (by decide) F0).fw
 clear hb1
 have s1:=sub_of h0 h1 F1
 go_wp2_with fail
 refine (l4NameEnd_any a cap L (isE L (i+2) [40]) _ hA1 hL ⟨by omega,by omega⟩).mono ?_
 rintro e w2 ⟨rfl,hb2⟩
 have hA2:=hA1.call hb2
 have hB2:=bstep hB1 hb2
 have F2:Fw L (i+2) (nmE L (isE L (i+2) [40])):=(nmE_ends F1).fw
 clear hb2
 have s2:=sub_of h0 h1 F2
 go_wp2_with fail
 refine (IH.many 1 (nmE L (isE L (i+2) [40])) _ hA2 (by decide) s2.1 s2.2.1 (by omega)).mono ?_
 rintro e w3 ⟨rfl,hb3⟩
 have hA3:=hA2.call hb3
 have hB3:=bstep hB2 hb3
 have F3:Fw L (i+2) (frm L n 5 (nmE L (isE L (i+2) [40]))):=hr.fw (by decide) F2
 clear hb3
 have s3:=sub_of h0 h1 F3
 go_wp2_with fail
 refine (l4Is_any a cap L (frm L n 5 (nmE L (isE L (i+2) [40]))) [41] _ hA3 hL ⟨by omega,by omega⟩ (by decide)).mono ?_
 rintro e w4 ⟨rfl,hb4⟩
 have hA4:=hA3.call hb4
 have hB4:=bstep hB3 hb4
 have F4:Fw L (i+2) (isE L (frm L n 5 (nmE L (isE L (i+2) [40]))) [41]):=(isE_ends (by decide) F3).fw
 clear hb4
 have s4:=sub_of h0 h1 F4
 go_wp2_with fail
 refine (IH.sum (isE L (frm L n 5 (nmE L (isE L (i+2) [40]))) [41]) _ hA4 ⟨by omega,by omega⟩ (by omega)).mono ?_
 rintro e w5 ⟨rfl,hb5⟩
 have hA5:=hA4.call hb5
 have hB5:=bstep hB4 hb5
 have F5:Fw L (i+2) (frm L n 0 (isE L (frm L n 5 (nmE L (isE L (i+2) [40]))) [41])):=(hr.ends (by decide) F4).fw
 clear hb5
 have s5:=sub_of h0 h1 F5
 go_wp2_with fail
 refine (l4Is_any a cap L (frm L n 0 (isE L (frm L n 5 (nmE L (isE L (i+2) [40]))) [41])) [41] _ hA5 hL ⟨by omega,by omega⟩ (by decide)).mono ?_
 rintro e w6 ⟨rfl,hb6⟩
 have hA6:=hA5.call hb6
 have hB6:=bstep hB5 hb6
 have F6:Fw L (i+2) (isE L (frm L n 0 (isE L (frm L n 5 (nmE L (isE L (i+2) [40]))) [41])) [41]):=(isE_ends (by decide) F5).fw
 clear hb6
 go_wp2
 go_ret
 exact ⟨rfl,hB6⟩
set_option maxHeartbeats 4000000 in
theorem deed_take_bar (hA:ArgT w a L) (hL:L.length≤1048576) (ho:isW (sgAt L i) [40]=true) (hh:sgAt L (i+1)=⟨#[116,97,107,101]⟩) :
  Calls Tryz.prog 35 #[.slice a L.length cap,.int .i64 i,.bool false] w fun e w'=>e=.returned (.int .i64 (frm L (n+1) (if false then 1 else 2) i))∧Below w.heap.size w w':=by
 obtain ⟨h0,h1⟩:=sgAt_open ho
 rw [frm_deed,deedS_bar ho hh decB_take]
 have HO:Hid (sgAt L i=⟨#[40]⟩):=isW_eq ho
 have HH:Hid (sgAt L (i+1)=⟨#[116,97,107,101]⟩):=hh
 clear ho hh
 go_enter Tryz.func35,Tryz.ntmps35
 go_wp2_with fail
 refine (l4Sign_any a cap L i _ hA hL ⟨by omega,by omega⟩).mono ?_
 rintro e wa ⟨rfl,hba⟩
 rw [HO.out]
 have hAa:=hA.call hba
 go_wp2_with fail
 refine (l4Sign_any a cap L (i+1) _ hAa hL ⟨by omega,by omega⟩).mono ?_
 rintro e w0 ⟨rfl,hbb⟩
 rw [HH.out]
 have hB0:=bstep hba hbb
 go_wp2
 go_ret
 exact ⟨rfl,hB0⟩
set_option maxHeartbeats 4000000 in
theorem deed_hidden (IH:Forms a cap L n) (hA:ArgT w a L) (hL:L.length≤1048576) (hn:8 * farN L i+1≤n+1) (ho:isW (sgAt L i) [40]=true) (hh:sgAt L (i+1)=⟨#[104,105,100,100,101,110]⟩) :
  Calls Tryz.prog 35 #[.slice a L.length cap,.int .i64 i,.bool true] w fun e w'=>e=.returned (.int .i64 (frm L (n+1) (if true then 1 else 2) i))∧Below w.heap.size w w':=by
 obtain ⟨h0,h1⟩:=sgAt_open ho
 have hr:=frm_good L n
 rw [frm_deed,deedS_of (f:=true) ho hh (by rw [decB_hidden];rfl),deedH_hidden]
 have HO:Hid (sgAt L i=⟨#[40]⟩):=isW_eq ho
 have HH:Hid (sgAt L (i+1)=⟨#[104,105,100,100,101,110]⟩):=hh
 clear ho hh
 go_enter Tryz.func35,Tryz.ntmps35
 go_wp2_with fail
 refine (l4Sign_any a cap L i _ hA hL ⟨by omega,by omega⟩).mono ?_
 rintro e wa ⟨rfl,hba⟩
 rw [HO.out]
 have hAa:=hA.call hba
 go_wp2_with fail
 refine (l4Sign_any a cap L (i+1) _ hAa hL ⟨by omega,by omega⟩).mono ?_
 rintro e w0 ⟨rfl,hbb⟩
 rw [HH.out]
 have hA0:=hAa.call hbb
 have hB0:=bstep hba hbb
 clear hba hbb hA hAa HO HH
 have F0:Fw L (i+2) (i+2):=fw_at (by omega)
 have s0:=sub_of h0 h1 F0
 go_wp2_with fail
 refine (IH.many 1 (i+2) _ hA0 (by decide) s0.1 s0.2.1 (by omega)).mono ?_
 rintro e w1 ⟨rfl,hb1⟩
 have hA1:=hA0.call hb1
 have hB1:=bstep hB0 hb1
 have F1:Fw L (i+2) (frm L n 5 (i+2)):=hr.fw (by decide) F0
 clear hb1
 have s1:=sub_of h0 h1 F1
 go_wp2_with fail
 refine (l4Is_any a cap L (frm L n 5 (i+2)) [41] _ hA1 hL ⟨by omega,by omega⟩ (by decide)).mono ?_
 rintro e w2 ⟨rfl,hb2⟩
 have hA2:=hA1.call hb2
 have hB2:=bstep hB1 hb2
 have F2:Fw L (i+2) (isE L (frm L n 5 (i+2)) [41]):=(isE_ends (by decide) F1).fw
 clear hb2
 go_wp2
 go_ret
 exact ⟨rfl,hB2⟩
set_option maxHeartbeats 4000000 in
theorem deed_hidden_bar (hA:ArgT w a L) (hL:L.length≤1048576) (ho:isW (sgAt L i) [40]=true) (hh:sgAt L (i+1)=⟨#[104,105,100,100,101,110]⟩) :
  Calls Tryz.prog 35 #[.slice a L.length cap,.int .i64 i,.bool false] w fun e w'=>e=.returned (.int .i64 (frm L (n+1) (if false then 1 else 2) i))∧Below w.heap.size w w':=by
 obtain ⟨h0,h1⟩:=sgAt_open ho
 rw [frm_deed,deedS_bar ho hh decB_hidden]
 have HO:Hid (sgAt L i=⟨#[40]⟩):=isW_eq ho
 have HH:Hid (sgAt L (i+1)=⟨#[104,105,100,100,101,110]⟩):=hh
 clear ho hh
 go_enter Tryz.func35,Tryz.ntmps35
 go_wp2_with fail
 refine (l4Sign_any a cap L i _ hA hL ⟨by omega,by omega⟩).mono ?_
 rintro e wa ⟨rfl,hba⟩
 rw [HO.out]
 have hAa:=hA.call hba
 go_wp2_with fail
 refine (l4Sign_any a cap L (i+1) _ hAa hL ⟨by omega,by omega⟩).mono ?_
 rintro e w0 ⟨rfl,hbb⟩
 rw [HH.out]
 have hB0:=bstep hba hbb
 go_wp2
 go_ret
 exact ⟨rfl,hB0⟩
set_option maxHeartbeats 4000000 in
theorem deed_vars (IH:Forms a cap L n) (hA:ArgT w a L) (hL:L.length≤1048576) (hn:8 * farN L i+1≤n+1) (ho:isW (sgAt L i) [40]=true) (hh:sgAt L (i+1)=⟨#[118,97,114,115]⟩) :
  Calls Tryz.prog 35 #[.slice a L.length cap,.int .i64 i,.bool true] w fun e w'=>e=.returned (.int .i64 (frm L (n+1) (if true then 1 else 2) i))∧Below w.heap.size w w':=by
 obtain ⟨h0,h1⟩:=sgAt_open ho
 have hr:=frm_good L n
 rw [frm_deed,deedS_of (f:=true) ho hh (by rw [decB_vars];rfl),deedH_vars]
 have HO:Hid (sgAt L i=⟨#[40]⟩):=isW_eq ho
 have HH:Hid (sgAt L (i+1)=⟨#[118,97,114,115]⟩):=hh
 clear ho hh
 go_enter Tryz.func35,Tryz.ntmps35
 go_wp2_with fail
 refine (l4Sign_any a cap L i _ hA hL ⟨by omega,by omega⟩).mono ?_
 rintro e wa ⟨rfl,hba⟩
 rw [HO.out]
 have hAa:=hA.call hba
 go_wp2_with fail
 refine (l4Sign_any a cap L (i+1) _ hAa hL ⟨by omega,by omega⟩).mono ?_
 rintro e w0 ⟨rfl,hbb⟩
 rw [HH.out]
 have hA0:=hAa.call hbb
 have hB0:=bstep hba hbb
 clear hba hbb hA hAa HO HH
 have F0:Fw L (i+2) (i+2):=fw_at (by omega)
 have s0:=sub_of h0 h1 F0
 go_wp2_with fail
 refine (IH.many 1 (i+2) _ hA0 (by decide) s0.1 s0.2.1 (by omega)).mono ?_
 rintro e w1 ⟨rfl,hb1⟩
 have hA1:=hA0.call hb1
 have hB1:=bstep hB0 hb1
 have F1:Fw L (i+2) (frm L n 5 (i+2)):=hr.fw (by decide) F0
 clear hb1
 have s1:=sub_of h0 h1 F1
 go_wp2_with fail
 refine (l4Is_any a cap L (frm L n 5 (i+2)) [41] _ hA1 hL ⟨by omega,by omega⟩ (by decide)).mono ?_
 rintro e w2 ⟨rfl,hb2⟩
 have hA2:=hA1.call hb2
 have hB2:=bstep hB1 hb2
 have F2:Fw L (i+2) (isE L (frm L n 5 (i+2)) [41]):=(isE_ends (by decide) F1).fw
 clear hb2
 go_wp2
 go_ret
 exact ⟨rfl,hB2⟩
set_option maxHeartbeats 4000000 in
theorem deed_vars_bar (hA:ArgT w a L) (hL:L.length≤1048576) (ho:isW (sgAt L i) [40]=true) (hh:sgAt L (i+1)=⟨#[118,97,114,115]⟩) :
  Calls Tryz.prog 35 #[.slice a L.length cap,.int .i64 i,.bool false] w fun e w'=>e=.returned (.int .i64 (frm L (n+1) (if false then 1 else 2) i))∧Below w.heap.size w w':=by
 obtain ⟨h0,h1⟩:=sgAt_open ho
 rw [frm_deed,deedS_bar ho hh decB_vars]
 have HO:Hid (sgAt L i=⟨#[40]⟩):=isW_eq ho
 have HH:Hid (sgAt L (i+1)=⟨#[118,97,114,115]⟩):=hh
 clear ho hh
 go_enter Tryz.func35,Tryz.ntmps35
 go_wp2_with fail
 refine (l4Sign_any a cap L i _ hA hL ⟨by omega,by omega⟩).mono ?_
 rintro e wa ⟨rfl,hba⟩
 rw [HO.out]
 have hAa:=hA.call hba
 go_wp2_with fail
 refine (l4Sign_any a cap L (i+1) _ hAa hL ⟨by omega,by omega⟩).mono ?_
 rintro e w0 ⟨rfl,hbb⟩
 rw [HH.out]
 have hB0:=bstep hba hbb
 go_wp2
 go_ret
 exact ⟨rfl,hB0⟩
set_option maxHeartbeats 4000000 in
theorem deed_do (f:Bool) (IH:Forms a cap L n) (hA:ArgT w a L) (hL:L.length≤1048576) (hn:8 * farN L i+1≤n+1) (ho:isW (sgAt L i) [40]=true) (hh:sgAt L (i+1)=⟨#[100,111]⟩) :
  Calls Tryz.prog 35 #[.slice a L.length cap,.int .i64 i,.bool f] w fun e w'=>e=.returned (.int .i64 (frm L (n+1) (if f then 1 else 2) i))∧Below w.heap.size w w':=by
 obtain ⟨h0,h1⟩:=sgAt_open ho
 have hr:=frm_good L n
 rw [frm_deed,deedS_of (f:=f) ho hh (by rw [decB_do];rfl),deedH_do]
 have HO:Hid (sgAt L i=⟨#[40]⟩):=isW_eq ho
 have HH:Hid (sgAt L (i+1)=⟨#[100,111]⟩):=hh
 clear ho hh
 go_enter Tryz.func35,Tryz.ntmps35
 go_wp2_with fail
 refine (l4Sign_any a cap L i _ hA hL ⟨by omega,by omega⟩).mono ?_
 rintro e wa ⟨rfl,hba⟩
 rw [HO.out]
 have hAa:=hA.call hba
 go_wp2_with fail
 refine (l4Sign_any a cap L (i+1) _ hAa hL ⟨by omega,by omega⟩).mono ?_
 rintro e w0 ⟨rfl,hbb⟩
 rw [HH.out]
 have hA0:=hAa.call hbb
 have hB0:=bstep hba hbb
 clear hba hbb hA hAa HO HH
 have F0:Fw L (i+2) (i+2):=fw_at (by omega)
 have s0:=sub_of h0 h1 F0
 go_wp2_with fail
 refine (IH.many 2 (i+2) _ hA0 (by decide) s0.1 s0.2.1 (by omega)).mono ?_
 rintro e w1 ⟨rfl,hb1⟩
 have hA1:=hA0.call hb1
 have hB1:=bstep hB0 hb1
 have F1:Fw L (i+2) (frm L n 6 (i+2)):=hr.fw (by decide) F0
 clear hb1
 have s1:=sub_of h0 h1 F1
 go_wp2_with fail
 refine (l4Is_any a cap L (frm L n 6 (i+2)) [41] _ hA1 hL ⟨by omega,by omega⟩ (by decide)).mono ?_
 rintro e w2 ⟨rfl,hb2⟩
 have hA2:=hA1.call hb2
 have hB2:=bstep hB1 hb2
 have F2:Fw L (i+2) (isE L (frm L n 6 (i+2)) [41]):=(isE_ends (by decide) F1).fw
 clear hb2
 go_wp2
 go_ret
 exact ⟨rfl,hB2⟩
set_option maxHeartbeats 4000000 in
theorem deed_if (f:Bool) (IH:Forms a cap L n) (hA:ArgT w a L) (hL:L.length≤1048576) (hn:8 * farN L i+1≤n+1) (ho:isW (sgAt L i) [40]=true) (hh:sgAt L (i+1)=⟨#[105,102]⟩) :
  Calls Tryz.prog 35 #[.slice a L.length cap,.int .i64 i,.bool f] w fun e w'=>e=.returned (.int .i64 (frm L (n+1) (if f then 1 else 2) i))∧Below w.heap.size w w':=by
 obtain ⟨h0,h1⟩:=sgAt_open ho
 have hr:=frm_good L n
 rw [frm_deed,deedS_of (f:=f) ho hh (by rw [decB_if];rfl),deedH_if]
 have HO:Hid (sgAt L i=⟨#[40]⟩):=isW_eq ho
 have HH:Hid (sgAt L (i+1)=⟨#[105,102]⟩):=hh
 clear ho hh
 go_enter Tryz.func35,Tryz.ntmps35
 go_wp2_with fail
 refine (l4Sign_any a cap L i _ hA hL ⟨by omega,by omega⟩).mono ?_
 rintro e wa ⟨rfl,hba⟩
 rw [HO.out]
 have hAa:=hA.call hba
 go_wp2_with fail
 refine (l4Sign_any a cap L (i+1) _ hAa hL ⟨by omega,by omega⟩).mono ?_
 rintro e w0 ⟨rfl,hbb⟩
 rw [HH.out]
 have hA0:=hAa.call hbb
 have hB0:=bstep hba hbb
 clear hba hbb hA hAa HO HH
 have F0:Fw L (i+2) (i+2):=fw_at (by omega)
 have s0:=sub_of h0 h1 F0
 go_wp2_with fail
 refine (IH.sum (i+2) _ hA0 ⟨by omega,by omega⟩ (by omega)).mono ?_
 rintro e w1 ⟨rfl,hb1⟩
 have hA1:=hA0.call hb1
 have hB1:=bstep hB0 hb1
 have F1:Fw L (i+2) (frm L n 0 (i+2)):=(hr.ends (by decide) F0).fw
 clear hb1
 have s1:=sub_of h0 h1 F1
 go_wp2_with fail
 refine (IH.deed (frm L n 0 (i+2)) false _ hA1 ⟨by omega,by omega⟩ (by omega)).mono ?_
 rintro e w2 ⟨rfl,hb2⟩
 have hA2:=hA1.call hb2
 have hB2:=bstep hB1 hb2
 have F2:Fw L (i+2) (frm L n 2 (frm L n 0 (i+2))):=(hr.ends (by decide) F1).fw
 clear hb2
 have s2:=sub_of h0 h1 F2
 go_wp2_with fail
 refine (IH.deed (frm L n 2 (frm L n 0 (i+2))) false _ hA2 ⟨by omega,by omega⟩ (by omega)).mono ?_
 rintro e w3 ⟨rfl,hb3⟩
 have hA3:=hA2.call hb3
 have hB3:=bstep hB2 hb3
 have F3:Fw L (i+2) (frm L n 2 (frm L n 2 (frm L n 0 (i+2)))):=(hr.ends (by decide) F2).fw
 clear hb3
 have s3:=sub_of h0 h1 F3
 go_wp2_with fail
 refine (l4Is_any a cap L (frm L n 2 (frm L n 2 (frm L n 0 (i+2)))) [41] _ hA3 hL ⟨by omega,by omega⟩ (by decide)).mono ?_
 rintro e w4 ⟨rfl,hb4⟩
 have hA4:=hA3.call hb4
 have hB4:=bstep hB3 hb4
 have F4:Fw L (i+2) (isE L (frm L n 2 (frm L n 2 (frm L n 0 (i+2)))) [41]):=(isE_ends (by decide) F3).fw
 clear hb4
 go_wp2
 go_ret
 exact ⟨rfl,hB4⟩
set_option maxHeartbeats 4000000 in
theorem deed_while (f:Bool) (IH:Forms a cap L n) (hA:ArgT w a L) (hL:L.length≤1048576) (hn:8 * farN L i+1≤n+1) (ho:isW (sgAt L i) [40]=true) (hh:sgAt L (i+1)=⟨#[119,104,105,108,101]⟩) :
  Calls Tryz.prog 35 #[.slice a L.length cap,.int .i64 i,.bool f] w fun e w'=>e=.returned (.int .i64 (frm L (n+1) (if f then 1 else 2) i))∧Below w.heap.size w w':=by
 obtain ⟨h0,h1⟩:=sgAt_open ho
 have hr:=frm_good L n
 rw [frm_deed,deedS_of (f:=f) ho hh (by rw [decB_while];rfl),deedH_while]
 have HO:Hid (sgAt L i=⟨#[40]⟩):=isW_eq ho
 have HH:Hid (sgAt L (i+1)=⟨#[119,104,105,108,101]⟩):=hh
 clear ho hh
 go_enter Tryz.func35,Tryz.ntmps35
 go_wp2_with fail
 refine (l4Sign_any a cap L i _ hA hL ⟨by omega,by omega⟩).mono ?_
 rintro e wa ⟨rfl,hba⟩
 rw [HO.out]
 have hAa:=hA.call hba
 go_wp2_with fail
 refine (l4Sign_any a cap L (i+1) _ hAa hL ⟨by omega,by omega⟩).mono ?_
 rintro e w0 ⟨rfl,hbb⟩
 rw [HH.out]
 have hA0:=hAa.call hbb
 have hB0:=bstep hba hbb
 clear hba hbb hA hAa HO HH
 have F0:Fw L (i+2) (i+2):=fw_at (by omega)
 have s0:=sub_of h0 h1 F0
 go_wp2_with fail
 refine (IH.sum (i+2) _ hA0 ⟨by omega,by omega⟩ (by omega)).mono ?_
 rintro e w1 ⟨rfl,hb1⟩
 have hA1:=hA0.call hb1
 have hB1:=bstep hB0 hb1
 have F1:Fw L (i+2) (frm L n 0 (i+2)):=(hr.ends (by decide) F0).fw
 clear hb1
 have s1:=sub_of h0 h1 F1
 go_wp2_with fail
 refine (IH.deed (frm L n 0 (i+2)) false _ hA1 ⟨by omega,by omega⟩ (by omega)).mono ?_
 rintro e w2 ⟨rfl,hb2⟩
 have hA2:=hA1.call hb2
 have hB2:=bstep hB1 hb2
 have F2:Fw L (i+2) (frm L n 2 (frm L n 0 (i+2))):=(hr.ends (by decide) F1).fw
 clear hb2
 have s2:=sub_of h0 h1 F2
 go_wp2_with fail
 refine (l4Is_any a cap L (frm L n 2 (frm L n 0 (i+2))) [41] _ hA2 hL ⟨by omega,by omega⟩ (by decide)).mono ?_
 rintro e w3 ⟨rfl,hb3⟩
 have hA3:=hA2.call hb3
 have hB3:=bstep hB2 hb3
 have F3:Fw L (i+2) (isE L (frm L n 2 (frm L n 0 (i+2))) [41]):=(isE_ends (by decide) F2).fw
 clear hb3
 go_wp2
 go_ret
 exact ⟨rfl,hB3⟩
set_option maxHeartbeats 4000000 in
theorem deed_for (f:Bool) (IH:Forms a cap L n) (hA:ArgT w a L) (hL:L.length≤1048576) (hn:8 * farN L i+1≤n+1) (ho:isW (sgAt L i) [40]=true) (hh:sgAt L (i+1)=⟨#[102,111,114]⟩) :
  Calls Tryz.prog 35 #[.slice a L.length cap,.int .i64 i,.bool f] w fun e w'=>e=.returned (.int .i64 (frm L (n+1) (if f then 1 else 2) i))∧Below w.heap.size w w':=by
 obtain ⟨h0,h1⟩:=sgAt_open ho
 have hr:=frm_good L n
 rw [frm_deed,deedS_of (f:=f) ho hh (by rw [decB_for];rfl),deedH_for]
 have HO:Hid (sgAt L i=⟨#[40]⟩):=isW_eq ho
 have HH:Hid (sgAt L (i+1)=⟨#[102,111,114]⟩):=hh
 clear ho hh
 go_enter Tryz.func35,Tryz.ntmps35
 go_wp2_with fail
 refine (l4Sign_any a cap L i _ hA hL ⟨by omega,by omega⟩).mono ?_
 rintro e wa ⟨rfl,hba⟩
 rw [HO.out]
 have hAa:=hA.call hba
 go_wp2_with fail
 refine (l4Sign_any a cap L (i+1) _ hAa hL ⟨by omega,by omega⟩).mono ?_
 rintro e w0 ⟨rfl,hbb⟩
 rw [HH.out]
 have hA0:=hAa.call hbb
 have hB0:=bstep hba hbb
 clear hba hbb hA hAa HO HH
 have F0:Fw L (i+2) (i+2):=fw_at (by omega)
 have s0:=sub_of h0 h1 F0
 go_wp2_with fail
 refine (l4NameEnd_any a cap L (i+2) _ hA0 hL ⟨by omega,by omega⟩).mono ?_
 rintro e w1 ⟨rfl,hb1⟩
 have hA1:=hA0.call hb1
 have hB1:=bstep hB0 hb1
 have F1:Fw L (i+2) (nmE L (i+2)):=(nmE_ends F0).fw
 clear hb1
 have s1:=sub_of h0 h1 F1
 go_wp2_with fail
 refine (IH.sums 2 (nmE L (i+2)) _ hA1 (by decide) s1.1 s1.2.1 (by omega)).mono ?_
 rintro e w2 ⟨rfl,hb2⟩
 have hA2:=hA1.call hb2
 have hB2:=bstep hB1 hb2
 have F2:Fw L (i+2) (frm L n 10 (nmE L (i+2))):=hr.fw (by decide) F1
 clear hb2
 have s2:=sub_of h0 h1 F2
 go_wp2_with fail
 refine (IH.deed (frm L n 10 (nmE L (i+2))) false _ hA2 ⟨by omega,by omega⟩ (by omega)).mono ?_
 rintro e w3 ⟨rfl,hb3⟩
 have hA3:=hA2.call hb3
 have hB3:=bstep hB2 hb3
 have F3:Fw L (i+2) (frm L n 2 (frm L n 10 (nmE L (i+2)))):=(hr.ends (by decide) F2).fw
 clear hb3
 have s3:=sub_of h0 h1 F3
 go_wp2_with fail
 refine (l4Is_any a cap L (frm L n 2 (frm L n 10 (nmE L (i+2)))) [41] _ hA3 hL ⟨by omega,by omega⟩ (by decide)).mono ?_
 rintro e w4 ⟨rfl,hb4⟩
 have hA4:=hA3.call hb4
 have hB4:=bstep hB3 hb4
 have F4:Fw L (i+2) (isE L (frm L n 2 (frm L n 10 (nmE L (i+2)))) [41]):=(isE_ends (by decide) F3).fw
 clear hb4
 go_wp2
 go_ret
 exact ⟨rfl,hB4⟩
set_option maxHeartbeats 4000000 in
theorem deed_say (f:Bool) (IH:Forms a cap L n) (hA:ArgT w a L) (hL:L.length≤1048576) (hn:8 * farN L i+1≤n+1) (ho:isW (sgAt L i) [40]=true) (hh:sgAt L (i+1)=⟨#[115,97,121]⟩) :
  Calls Tryz.prog 35 #[.slice a L.length cap,.int .i64 i,.bool f] w fun e w'=>e=.returned (.int .i64 (frm L (n+1) (if f then 1 else 2) i))∧Below w.heap.size w w':=by
 obtain ⟨h0,h1⟩:=sgAt_open ho
 have hr:=frm_good L n
 rw [frm_deed,deedS_of (f:=f) ho hh (by rw [decB_say];rfl),deedH_say]
 have HO:Hid (sgAt L i=⟨#[40]⟩):=isW_eq ho
 have HH:Hid (sgAt L (i+1)=⟨#[115,97,121]⟩):=hh
 clear ho hh
 go_enter Tryz.func35,Tryz.ntmps35
 go_wp2_with fail
 refine (l4Sign_any a cap L i _ hA hL ⟨by omega,by omega⟩).mono ?_
 rintro e wa ⟨rfl,hba⟩
 rw [HO.out]
 have hAa:=hA.call hba
 go_wp2_with fail
 refine (l4Sign_any a cap L (i+1) _ hAa hL ⟨by omega,by omega⟩).mono ?_
 rintro e w0 ⟨rfl,hbb⟩
 rw [HH.out]
 have hA0:=hAa.call hbb
 have hB0:=bstep hba hbb
 clear hba hbb hA hAa HO HH
 have F0:Fw L (i+2) (i+2):=fw_at (by omega)
 have s0:=sub_of h0 h1 F0
 go_wp2_with fail
 refine (IH.sum (i+2) _ hA0 ⟨by omega,by omega⟩ (by omega)).mono ?_
 rintro e w1 ⟨rfl,hb1⟩
 have hA1:=hA0.call hb1
 have hB1:=bstep hB0 hb1
 have F1:Fw L (i+2) (frm L n 0 (i+2)):=(hr.ends (by decide) F0).fw
 clear hb1
 have s1:=sub_of h0 h1 F1
 go_wp2_with fail
 refine (l4Is_any a cap L (frm L n 0 (i+2)) [41] _ hA1 hL ⟨by omega,by omega⟩ (by decide)).mono ?_
 rintro e w2 ⟨rfl,hb2⟩
 have hA2:=hA1.call hb2
 have hB2:=bstep hB1 hb2
 have F2:Fw L (i+2) (isE L (frm L n 0 (i+2)) [41]):=(isE_ends (by decide) F1).fw
 clear hb2
 go_wp2
 go_ret
 exact ⟨rfl,hB2⟩
set_option maxHeartbeats 4000000 in
theorem deed_back (f:Bool) (IH:Forms a cap L n) (hA:ArgT w a L) (hL:L.length≤1048576) (hn:8 * farN L i+1≤n+1) (ho:isW (sgAt L i) [40]=true) (hh:sgAt L (i+1)=⟨#[98,97,99,107]⟩) :
  Calls Tryz.prog 35 #[.slice a L.length cap,.int .i64 i,.bool f] w fun e w'=>e=.returned (.int .i64 (frm L (n+1) (if f then 1 else 2) i))∧Below w.heap.size w w':=by
 obtain ⟨h0,h1⟩:=sgAt_open ho
 have hr:=frm_good L n
 rw [frm_deed,deedS_of (f:=f) ho hh (by rw [decB_back];rfl),deedH_back]
 have HO:Hid (sgAt L i=⟨#[40]⟩):=isW_eq ho
 have HH:Hid (sgAt L (i+1)=⟨#[98,97,99,107]⟩):=hh
 clear ho hh
 go_enter Tryz.func35,Tryz.ntmps35
 go_wp2_with fail
 refine (l4Sign_any a cap L i _ hA hL ⟨by omega,by omega⟩).mono ?_
 rintro e wa ⟨rfl,hba⟩
 rw [HO.out]
 have hAa:=hA.call hba
 go_wp2_with fail
 refine (l4Sign_any a cap L (i+1) _ hAa hL ⟨by omega,by omega⟩).mono ?_
 rintro e w0 ⟨rfl,hbb⟩
 rw [HH.out]
 have hA0:=hAa.call hbb
 have hB0:=bstep hba hbb
 clear hba hbb hA hAa HO HH
 have F0:Fw L (i+2) (i+2):=fw_at (by omega)
 have s0:=sub_of h0 h1 F0
 go_wp2_with fail
 refine (IH.sum (i+2) _ hA0 ⟨by omega,by omega⟩ (by omega)).mono ?_
 rintro e w1 ⟨rfl,hb1⟩
 have hA1:=hA0.call hb1
 have hB1:=bstep hB0 hb1
 have F1:Fw L (i+2) (frm L n 0 (i+2)):=(hr.ends (by decide) F0).fw
 clear hb1
 have s1:=sub_of h0 h1 F1
 go_wp2_with fail
 refine (l4Is_any a cap L (frm L n 0 (i+2)) [41] _ hA1 hL ⟨by omega,by omega⟩ (by decide)).mono ?_
 rintro e w2 ⟨rfl,hb2⟩
 have hA2:=hA1.call hb2
 have hB2:=bstep hB1 hb2
 have F2:Fw L (i+2) (isE L (frm L n 0 (i+2)) [41]):=(isE_ends (by decide) F1).fw
 clear hb2
 go_wp2
 go_ret
 exact ⟨rfl,hB2⟩
set_option maxHeartbeats 4000000 in
theorem deed_run (f:Bool) (IH:Forms a cap L n) (hA:ArgT w a L) (hL:L.length≤1048576) (hn:8 * farN L i+1≤n+1) (ho:isW (sgAt L i) [40]=true) (hh:sgAt L (i+1)=⟨#[114,117,110]⟩) :
  Calls Tryz.prog 35 #[.slice a L.length cap,.int .i64 i,.bool f] w fun e w'=>e=.returned (.int .i64 (frm L (n+1) (if f then 1 else 2) i))∧Below w.heap.size w w':=by
 obtain ⟨h0,h1⟩:=sgAt_open ho
 have hr:=frm_good L n
 rw [frm_deed,deedS_of (f:=f) ho hh (by rw [decB_run];rfl),deedH_run]
 have HO:Hid (sgAt L i=⟨#[40]⟩):=isW_eq ho
 have HH:Hid (sgAt L (i+1)=⟨#[114,117,110]⟩):=hh
 clear ho hh
 go_enter Tryz.func35,Tryz.ntmps35
 go_wp2_with fail
 refine (l4Sign_any a cap L i _ hA hL ⟨by omega,by omega⟩).mono ?_
 rintro e wa ⟨rfl,hba⟩
 rw [HO.out]
 have hAa:=hA.call hba
 go_wp2_with fail
 refine (l4Sign_any a cap L (i+1) _ hAa hL ⟨by omega,by omega⟩).mono ?_
 rintro e w0 ⟨rfl,hbb⟩
 rw [HH.out]
 have hA0:=hAa.call hbb
 have hB0:=bstep hba hbb
 clear hba hbb hA hAa HO HH
 have F0:Fw L (i+2) (i+2):=fw_at (by omega)
 have s0:=sub_of h0 h1 F0
 go_wp2_with fail
 refine (IH.sum (i+2) _ hA0 ⟨by omega,by omega⟩ (by omega)).mono ?_
 rintro e w1 ⟨rfl,hb1⟩
 have hA1:=hA0.call hb1
 have hB1:=bstep hB0 hb1
 have F1:Fw L (i+2) (frm L n 0 (i+2)):=(hr.ends (by decide) F0).fw
 clear hb1
 have s1:=sub_of h0 h1 F1
 go_wp2_with fail
 refine (l4Is_any a cap L (frm L n 0 (i+2)) [41] _ hA1 hL ⟨by omega,by omega⟩ (by decide)).mono ?_
 rintro e w2 ⟨rfl,hb2⟩
 have hA2:=hA1.call hb2
 have hB2:=bstep hB1 hb2
 have F2:Fw L (i+2) (isE L (frm L n 0 (i+2)) [41]):=(isE_ends (by decide) F1).fw
 clear hb2
 go_wp2
 go_ret
 exact ⟨rfl,hB2⟩
set_option maxHeartbeats 4000000 in
theorem deed_leave (f:Bool) (_IH:Forms a cap L n) (hA:ArgT w a L) (hL:L.length≤1048576) (_hn:8 * farN L i+1≤n+1) (ho:isW (sgAt L i) [40]=true) (hh:sgAt L (i+1)=⟨#[108,101,97,118,101]⟩) :
  Calls Tryz.prog 35 #[.slice a L.length cap,.int .i64 i,.bool f] w fun e w'=>e=.returned (.int .i64 (frm L (n+1) (if f then 1 else 2) i))∧Below w.heap.size w w':=by
 obtain ⟨h0,h1⟩:=sgAt_open ho
 have hr:=frm_good L n
 rw [frm_deed,deedS_of (f:=f) ho hh (by rw [decB_leave];rfl),deedH_leave]
 have HO:Hid (sgAt L i=⟨#[40]⟩):=isW_eq ho
 have HH:Hid (sgAt L (i+1)=⟨#[108,101,97,118,101]⟩):=hh
 clear ho hh
 go_enter Tryz.func35,Tryz.ntmps35
 go_wp2_with fail
 refine (l4Sign_any a cap L i _ hA hL ⟨by omega,by omega⟩).mono ?_
 rintro e wa ⟨rfl,hba⟩
 rw [HO.out]
 have hAa:=hA.call hba
 go_wp2_with fail
 refine (l4Sign_any a cap L (i+1) _ hAa hL ⟨by omega,by omega⟩).mono ?_
 rintro e w0 ⟨rfl,hbb⟩
 rw [HH.out]
 have hA0:=hAa.call hbb
 have hB0:=bstep hba hbb
 clear hba hbb hA hAa HO HH
 have F0:Fw L (i+2) (i+2):=fw_at (by omega)
 have s0:=sub_of h0 h1 F0
 go_wp2_with fail
 refine (l4Is_any a cap L (i+2) [41] _ hA0 hL ⟨by omega,by omega⟩ (by decide)).mono ?_
 rintro e w1 ⟨rfl,hb1⟩
 have hA1:=hA0.call hb1
 have hB1:=bstep hB0 hb1
 have F1:Fw L (i+2) (isE L (i+2) [41]):=(isE_ends (by decide) F0).fw
 clear hb1
 go_wp2
 go_ret
 exact ⟨rfl,hB1⟩
set_option maxHeartbeats 4000000 in
theorem deed_next (f:Bool) (_IH:Forms a cap L n) (hA:ArgT w a L) (hL:L.length≤1048576) (_hn:8 * farN L i+1≤n+1) (ho:isW (sgAt L i) [40]=true) (hh:sgAt L (i+1)=⟨#[110,101,120,116]⟩) :
  Calls Tryz.prog 35 #[.slice a L.length cap,.int .i64 i,.bool f] w fun e w'=>e=.returned (.int .i64 (frm L (n+1) (if f then 1 else 2) i))∧Below w.heap.size w w':=by
 obtain ⟨h0,h1⟩:=sgAt_open ho
 have hr:=frm_good L n
 rw [frm_deed,deedS_of (f:=f) ho hh (by rw [decB_next];rfl),deedH_next]
 have HO:Hid (sgAt L i=⟨#[40]⟩):=isW_eq ho
 have HH:Hid (sgAt L (i+1)=⟨#[110,101,120,116]⟩):=hh
 clear ho hh
 go_enter Tryz.func35,Tryz.ntmps35
 go_wp2_with fail
 refine (l4Sign_any a cap L i _ hA hL ⟨by omega,by omega⟩).mono ?_
 rintro e wa ⟨rfl,hba⟩
 rw [HO.out]
 have hAa:=hA.call hba
 go_wp2_with fail
 refine (l4Sign_any a cap L (i+1) _ hAa hL ⟨by omega,by omega⟩).mono ?_
 rintro e w0 ⟨rfl,hbb⟩
 rw [HH.out]
 have hA0:=hAa.call hbb
 have hB0:=bstep hba hbb
 clear hba hbb hA hAa HO HH
 have F0:Fw L (i+2) (i+2):=fw_at (by omega)
 have s0:=sub_of h0 h1 F0
 go_wp2_with fail
 refine (l4Is_any a cap L (i+2) [41] _ hA0 hL ⟨by omega,by omega⟩ (by decide)).mono ?_
 rintro e w1 ⟨rfl,hb1⟩
 have hA1:=hA0.call hb1
 have hB1:=bstep hB0 hb1
 have F1:Fw L (i+2) (isE L (i+2) [41]):=(isE_ends (by decide) F0).fw
 clear hb1
 go_wp2
 go_ret
 exact ⟨rfl,hB1⟩
set_option maxHeartbeats 4000000 in
theorem deed_put (f:Bool) (IH:Forms a cap L n) (hA:ArgT w a L) (hL:L.length≤1048576) (hn:8 * farN L i+1≤n+1) (ho:isW (sgAt L i) [40]=true) (hh:sgAt L (i+1)=⟨#[112,117,116]⟩) :
  Calls Tryz.prog 35 #[.slice a L.length cap,.int .i64 i,.bool f] w fun e w'=>e=.returned (.int .i64 (frm L (n+1) (if f then 1 else 2) i))∧Below w.heap.size w w':=by
 obtain ⟨h0,h1⟩:=sgAt_open ho
 have hr:=frm_good L n
 rw [frm_deed,deedS_of (f:=f) ho hh (by rw [decB_put];rfl),deedH_put]
 have HO:Hid (sgAt L i=⟨#[40]⟩):=isW_eq ho
 have HH:Hid (sgAt L (i+1)=⟨#[112,117,116]⟩):=hh
 clear ho hh
 go_enter Tryz.func35,Tryz.ntmps35
 go_wp2_with fail
 refine (l4Sign_any a cap L i _ hA hL ⟨by omega,by omega⟩).mono ?_
 rintro e wa ⟨rfl,hba⟩
 rw [HO.out]
 have hAa:=hA.call hba
 go_wp2_with fail
 refine (l4Sign_any a cap L (i+1) _ hAa hL ⟨by omega,by omega⟩).mono ?_
 rintro e w0 ⟨rfl,hbb⟩
 rw [HH.out]
 have hA0:=hAa.call hbb
 have hB0:=bstep hba hbb
 clear hba hbb hA hAa HO HH
 have F0:Fw L (i+2) (i+2):=fw_at (by omega)
 have s0:=sub_of h0 h1 F0
 go_wp2_with fail
 refine (IH.sums 3 (i+2) _ hA0 (by decide) s0.1 s0.2.1 (by omega)).mono ?_
 rintro e w1 ⟨rfl,hb1⟩
 have hA1:=hA0.call hb1
 have hB1:=bstep hB0 hb1
 have F1:Fw L (i+2) (frm L n 11 (i+2)):=hr.fw (by decide) F0
 clear hb1
 have s1:=sub_of h0 h1 F1
 go_wp2_with fail
 refine (l4Is_any a cap L (frm L n 11 (i+2)) [41] _ hA1 hL ⟨by omega,by omega⟩ (by decide)).mono ?_
 rintro e w2 ⟨rfl,hb2⟩
 have hA2:=hA1.call hb2
 have hB2:=bstep hB1 hb2
 have F2:Fw L (i+2) (isE L (frm L n 11 (i+2)) [41]):=(isE_ends (by decide) F1).fw
 clear hb2
 go_wp2
 go_ret
 exact ⟨rfl,hB2⟩
set_option maxHeartbeats 4000000 in
theorem deed_tput (f:Bool) (IH:Forms a cap L n) (hA:ArgT w a L) (hL:L.length≤1048576) (hn:8 * farN L i+1≤n+1) (ho:isW (sgAt L i) [40]=true) (hh:sgAt L (i+1)=⟨#[116,112,117,116]⟩) :
  Calls Tryz.prog 35 #[.slice a L.length cap,.int .i64 i,.bool f] w fun e w'=>e=.returned (.int .i64 (frm L (n+1) (if f then 1 else 2) i))∧Below w.heap.size w w':=by
 obtain ⟨h0,h1⟩:=sgAt_open ho
 have hr:=frm_good L n
 rw [frm_deed,deedS_of (f:=f) ho hh (by rw [decB_tput];rfl),deedH_tput]
 have HO:Hid (sgAt L i=⟨#[40]⟩):=isW_eq ho
 have HH:Hid (sgAt L (i+1)=⟨#[116,112,117,116]⟩):=hh
 clear ho hh
 go_enter Tryz.func35,Tryz.ntmps35
 go_wp2_with fail
 refine (l4Sign_any a cap L i _ hA hL ⟨by omega,by omega⟩).mono ?_
 rintro e wa ⟨rfl,hba⟩
 rw [HO.out]
 have hAa:=hA.call hba
 go_wp2_with fail
 refine (l4Sign_any a cap L (i+1) _ hAa hL ⟨by omega,by omega⟩).mono ?_
 rintro e w0 ⟨rfl,hbb⟩
 rw [HH.out]
 have hA0:=hAa.call hbb
 have hB0:=bstep hba hbb
 clear hba hbb hA hAa HO HH
 have F0:Fw L (i+2) (i+2):=fw_at (by omega)
 have s0:=sub_of h0 h1 F0
 go_wp2_with fail
 refine (IH.sums 3 (i+2) _ hA0 (by decide) s0.1 s0.2.1 (by omega)).mono ?_
 rintro e w1 ⟨rfl,hb1⟩
 have hA1:=hA0.call hb1
 have hB1:=bstep hB0 hb1
 have F1:Fw L (i+2) (frm L n 11 (i+2)):=hr.fw (by decide) F0
 clear hb1
 have s1:=sub_of h0 h1 F1
 go_wp2_with fail
 refine (l4Is_any a cap L (frm L n 11 (i+2)) [41] _ hA1 hL ⟨by omega,by omega⟩ (by decide)).mono ?_
 rintro e w2 ⟨rfl,hb2⟩
 have hA2:=hA1.call hb2
 have hB2:=bstep hB1 hb2
 have F2:Fw L (i+2) (isE L (frm L n 11 (i+2)) [41]):=(isE_ends (by decide) F1).fw
 clear hb2
 go_wp2
 go_ret
 exact ⟨rfl,hB2⟩
set_option maxHeartbeats 4000000 in
theorem deed_hput (f:Bool) (IH:Forms a cap L n) (hA:ArgT w a L) (hL:L.length≤1048576) (hn:8 * farN L i+1≤n+1) (ho:isW (sgAt L i) [40]=true) (hh:sgAt L (i+1)=⟨#[104,112,117,116]⟩) :
  Calls Tryz.prog 35 #[.slice a L.length cap,.int .i64 i,.bool f] w fun e w'=>e=.returned (.int .i64 (frm L (n+1) (if f then 1 else 2) i))∧Below w.heap.size w w':=by
 obtain ⟨h0,h1⟩:=sgAt_open ho
 have hr:=frm_good L n
 rw [frm_deed,deedS_of (f:=f) ho hh (by rw [decB_hput];rfl),deedH_hput]
 have HO:Hid (sgAt L i=⟨#[40]⟩):=isW_eq ho
 have HH:Hid (sgAt L (i+1)=⟨#[104,112,117,116]⟩):=hh
 clear ho hh
 go_enter Tryz.func35,Tryz.ntmps35
 go_wp2_with fail
 refine (l4Sign_any a cap L i _ hA hL ⟨by omega,by omega⟩).mono ?_
 rintro e wa ⟨rfl,hba⟩
 rw [HO.out]
 have hAa:=hA.call hba
 go_wp2_with fail
 refine (l4Sign_any a cap L (i+1) _ hAa hL ⟨by omega,by omega⟩).mono ?_
 rintro e w0 ⟨rfl,hbb⟩
 rw [HH.out]
 have hA0:=hAa.call hbb
 have hB0:=bstep hba hbb
 clear hba hbb hA hAa HO HH
 have F0:Fw L (i+2) (i+2):=fw_at (by omega)
 have s0:=sub_of h0 h1 F0
 go_wp2_with fail
 refine (l4NameEnd_any a cap L (i+2) _ hA0 hL ⟨by omega,by omega⟩).mono ?_
 rintro e w1 ⟨rfl,hb1⟩
 have hA1:=hA0.call hb1
 have hB1:=bstep hB0 hb1
 have F1:Fw L (i+2) (nmE L (i+2)):=(nmE_ends F0).fw
 clear hb1
 have s1:=sub_of h0 h1 F1
 go_wp2_with fail
 refine (IH.sums 2 (nmE L (i+2)) _ hA1 (by decide) s1.1 s1.2.1 (by omega)).mono ?_
 rintro e w2 ⟨rfl,hb2⟩
 have hA2:=hA1.call hb2
 have hB2:=bstep hB1 hb2
 have F2:Fw L (i+2) (frm L n 10 (nmE L (i+2))):=hr.fw (by decide) F1
 clear hb2
 have s2:=sub_of h0 h1 F2
 go_wp2_with fail
 refine (l4Is_any a cap L (frm L n 10 (nmE L (i+2))) [41] _ hA2 hL ⟨by omega,by omega⟩ (by decide)).mono ?_
 rintro e w3 ⟨rfl,hb3⟩
 have hA3:=hA2.call hb3
 have hB3:=bstep hB2 hb3
 have F3:Fw L (i+2) (isE L (frm L n 10 (nmE L (i+2))) [41]):=(isE_ends (by decide) F2).fw
 clear hb3
 go_wp2
 go_ret
 exact ⟨rfl,hB3⟩
set_option maxHeartbeats 4000000 in
theorem deed_not (f:Bool) (hA:ArgT w a L) (hL:L.length≤1048576) (ho:isW (sgAt L i) [40]=true) (hlet:sgAt L (i+1)≠⟨#[108,101,116]⟩) (hset:sgAt L (i+1)≠⟨#[115,101,116]⟩) (htake:sgAt L (i+1)≠⟨#[116,97,107,101]⟩) (hhidden:sgAt L (i+1)≠⟨#[104,105,100,100,101,110]⟩) (hvars:sgAt L (i+1)≠⟨#[118,97,114,115]⟩) (hdo:sgAt L (i+1)≠⟨#[100,111]⟩) (hif:sgAt L (i+1)≠⟨#[105,102]⟩) (hwhile:sgAt L (i+1)≠⟨#[119,104,105,108,101]⟩) (hfor:sgAt L (i+1)≠⟨#[102,111,114]⟩) (hsay:sgAt L (i+1)≠⟨#[115,97,121]⟩) (hback:sgAt L (i+1)≠⟨#[98,97,99,107]⟩) (hrun:sgAt L (i+1)≠⟨#[114,117,110]⟩) (hleave:sgAt L (i+1)≠⟨#[108,101,97,118,101]⟩) (hnext:sgAt L (i+1)≠⟨#[110,101,120,116]⟩) (hput:sgAt L (i+1)≠⟨#[112,117,116]⟩) (htput:sgAt L (i+1)≠⟨#[116,112,117,116]⟩) (hhput:sgAt L (i+1)≠⟨#[104,112,117,116]⟩) :
  Calls Tryz.prog 35 #[.slice a L.length cap,.int .i64 i,.bool f] w fun e w'=>e=.returned (.int .i64 (frm L (n+1) (if f then 1 else 2) i))∧Below w.heap.size w w':=by
 obtain ⟨h0,h1⟩:=sgAt_open ho
 rw [frm_deed,deedS_of (f:=f) ho rfl (by rw [decB_not hlet htake hhidden hvars];rfl),deedH_not hlet hset htake hhidden hvars hdo hif hwhile hfor hsay hback hrun hleave hnext hput htput hhput]
 have HO:Hid (sgAt L i=⟨#[40]⟩):=isW_eq ho
 have qlet:((sgAt L (i+1)).toList == [108,101,116])=false:=isW_no hlet
 have qset:((sgAt L (i+1)).toList == [115,101,116])=false:=isW_no hset
 have qtake:((sgAt L (i+1)).toList == [116,97,107,101])=false:=isW_no htake
 have qhidden:((sgAt L (i+1)).toList == [104,105,100,100,101,110])=false:=isW_no hhidden
 have qvars:((sgAt L (i+1)).toList == [118,97,114,115])=false:=isW_no hvars
 have qdo:((sgAt L (i+1)).toList == [100,111])=false:=isW_no hdo
 have qif:((sgAt L (i+1)).toList == [105,102])=false:=isW_no hif
 have qwhile:((sgAt L (i+1)).toList == [119,104,105,108,101])=false:=isW_no hwhile
 have qfor:((sgAt L (i+1)).toList == [102,111,114])=false:=isW_no hfor
 have qsay:((sgAt L (i+1)).toList == [115,97,121])=false:=isW_no hsay
 have qback:((sgAt L (i+1)).toList == [98,97,99,107])=false:=isW_no hback
 have qrun:((sgAt L (i+1)).toList == [114,117,110])=false:=isW_no hrun
 have qleave:((sgAt L (i+1)).toList == [108,101,97,118,101])=false:=isW_no hleave
 have qnext:((sgAt L (i+1)).toList == [110,101,120,116])=false:=isW_no hnext
 have qput:((sgAt L (i+1)).toList == [112,117,116])=false:=isW_no hput
 have qtput:((sgAt L (i+1)).toList == [116,112,117,116])=false:=isW_no htput
 have qhput:((sgAt L (i+1)).toList == [104,112,117,116])=false:=isW_no hhput
 clear ho hlet hset htake hhidden hvars hdo hif hwhile hfor hsay hback hrun hleave hnext hput htput hhput
 go_enter Tryz.func35,Tryz.ntmps35
 go_wp2_with fail
 refine (l4Sign_any a cap L i _ hA hL ⟨by omega,by omega⟩).mono ?_
 rintro e wa ⟨rfl,hba⟩
 rw [HO.out]
 have hAa:=hA.call hba
 go_wp2_with fail
 refine (l4Sign_any a cap L (i+1) _ hAa hL ⟨by omega,by omega⟩).mono ?_
 rintro e w0 ⟨rfl,hbb⟩
 have hB0:=bstep hba hbb
 generalize sgAt L (i+1)=t at qlet qset qtake qhidden qvars qdo qif qwhile qfor qsay qback qrun qleave qnext qput qtput qhput
 go_wp2
 go_ret
 exact ⟨rfl,hB0⟩
theorem deed_all (f:Bool) (IH:Forms a cap L n) (hA:ArgT w a L) (hL:L.length≤1048576) (hi:I64 i) (hn:8 * farN L i+1≤n+1) :
  Calls Tryz.prog 35 #[.slice a L.length cap,.int .i64 i,.bool f] w fun e w'=>e=.returned (.int .i64 (frm L (n+1) (if f then 1 else 2) i))∧Below w.heap.size w w':=by
 cases ho:isW (sgAt L i) [40]
 ·exact deed_no f hA hL hi ho
 by_cases hlet:sgAt L (i+1)=⟨#[108,101,116]⟩
 ·cases f
  ·exact deed_let_bar hA hL ho hlet
  ·exact deed_let IH hA hL hn ho hlet
 by_cases hset:sgAt L (i+1)=⟨#[115,101,116]⟩
 ·exact deed_set f IH hA hL hn ho hset
 by_cases htake:sgAt L (i+1)=⟨#[116,97,107,101]⟩
 ·cases f
  ·exact deed_take_bar hA hL ho htake
  ·exact deed_take IH hA hL hn ho htake
 by_cases hhidden:sgAt L (i+1)=⟨#[104,105,100,100,101,110]⟩
 ·cases f
  ·exact deed_hidden_bar hA hL ho hhidden
  ·exact deed_hidden IH hA hL hn ho hhidden
 by_cases hvars:sgAt L (i+1)=⟨#[118,97,114,115]⟩
 ·cases f
  ·exact deed_vars_bar hA hL ho hvars
  ·exact deed_vars IH hA hL hn ho hvars
 by_cases hdo:sgAt L (i+1)=⟨#[100,111]⟩
 ·exact deed_do f IH hA hL hn ho hdo
 by_cases hif:sgAt L (i+1)=⟨#[105,102]⟩
 ·exact deed_if f IH hA hL hn ho hif
 by_cases hwhile:sgAt L (i+1)=⟨#[119,104,105,108,101]⟩
 ·exact deed_while f IH hA hL hn ho hwhile
 by_cases hfor:sgAt L (i+1)=⟨#[102,111,114]⟩
 ·exact deed_for f IH hA hL hn ho hfor
 by_cases hsay:sgAt L (i+1)=⟨#[115,97,121]⟩
 ·exact deed_say f IH hA hL hn ho hsay
 by_cases hback:sgAt L (i+1)=⟨#[98,97,99,107]⟩
 ·exact deed_back f IH hA hL hn ho hback
 by_cases hrun:sgAt L (i+1)=⟨#[114,117,110]⟩
 ·exact deed_run f IH hA hL hn ho hrun
 by_cases hleave:sgAt L (i+1)=⟨#[108,101,97,118,101]⟩
 ·exact deed_leave f IH hA hL hn ho hleave
 by_cases hnext:sgAt L (i+1)=⟨#[110,101,120,116]⟩
 ·exact deed_next f IH hA hL hn ho hnext
 by_cases hput:sgAt L (i+1)=⟨#[112,117,116]⟩
 ·exact deed_put f IH hA hL hn ho hput
 by_cases htput:sgAt L (i+1)=⟨#[116,112,117,116]⟩
 ·exact deed_tput f IH hA hL hn ho htput
 by_cases hhput:sgAt L (i+1)=⟨#[104,112,117,116]⟩
 ·exact deed_hput f IH hA hL hn ho hhput
 exact deed_not f hA hL ho hlet hset htake hhidden hvars hdo hif hwhile hfor hsay hback hrun hleave hnext hput htput hhput
end
end Go.Proofs.YtdgihicpjonjgaaGreatDoor
namespace Go.Proofs.YtdgihicpjonjgaaGreatDoor
open Go.RowKit
section
variable {a:Option Addr} {cap:Nat} {L:List ByteArray} {n:Nat} {i:Int} {w:World}
theorem frm_many {q:Nat} (hq:q≤3):frm L (n+1) (4+q) i=manyS L (frm L n) q i:=by
 obtain rfl | rfl | rfl | rfl:q=0∨q=1∨q=2∨q=3:=by omega
 all_goals rfl
theorem frm_sums {q:Nat}:frm L (n+1) (8+q) i=sumsS (frm L n) q i:=by
 unfold frm
 rw [if_neg (by omega),if_neg (by omega),if_neg (by omega),if_neg (by omega),if_neg (by omega),show 8+q - 8=q by omega]
theorem far_pos (h0:0≤i) (h1:i≤(L.length:Int)+1):1≤farN L i:=by
 unfold farN
 rw [if_neg (by omega)]
 omega
set_option maxHeartbeats 4000000 in
theorem par_all (IH:Forms a cap L n) (hA:ArgT w a L) (hL:L.length≤1048576) (hi:I64 i) (hn:8 * farN L i+1≤n+1) :
  Calls Tryz.prog 106 #[.slice a L.length cap,.int .i64 i] w fun e w'=>e=.returned (.int .i64 (frm L (n+1) 3 i))∧Below w.heap.size w w':=by
 have HV:Hid (frm L (n+1) 3 i=parS L (frm L n) i):=(rfl:frm L (n+1) 3 i=parS L (frm L n) i)
 cases ho:isW (sgAt L i) [40]
 ·have HP:Hid (parS L (frm L n) i=nmE L i):=(by unfold parS;rw [ho];rfl:parS L (frm L n) i=nmE L i)
  have b40:((sgAt L i).toList == [40])=false:=ho
  clear ho
  go_enter Tryz.func106,Tryz.ntmps106
  go_wp2_with fail
  refine (l4Sign_any a cap L i _ hA hL hi).mono ?_
  rintro e w1 ⟨rfl,hb1⟩
  have hA1:=hA.call hb1
  generalize sgAt L i=t at b40
  go_wp2_with fail
  refine (l4NameEnd_any a cap L i _ hA1 hL hi).mono ?_
  rintro e w2 ⟨rfl,hb2⟩
  go_wp2
  go_ret
  exact ⟨by rw [HV.out,HP.out];rfl,bstep hb1 hb2⟩
 ·obtain ⟨h0,h1⟩:=sgAt_open ho
  have HP:Hid (parS L (frm L n) i=isE L (frm L n 0 (nmE L (i+1))) [41]):=(by unfold parS;rw [ho];rfl:parS L (frm L n) i=isE L (frm L n 0 (nmE L (i+1))) [41])
  have HO:Hid (sgAt L i=⟨#[40]⟩):=isW_eq ho
  have hr:=frm_good L n
  have E1:Ends L (i+1) (nmE L (i+1)):=nmE_ends (fw_at (by omega))
  have E2:Ends L (i+1) (frm L n 0 (nmE L (i+1))):=hr.ends (by decide) E1.fw
  have s1:-1≤nmE L (i+1)∧nmE L (i+1)≤(L.length:Int)+1∧farN L (nmE L (i+1))+1≤farN L i:=by
   have hp:=far_pos (L:=L) h0 (by omega)
   rcases far_ends E1 (by omega) with hf | ⟨hf,hz⟩
   ·have:farN L (i+1)≤farN L i:=by unfold farN;rw [if_neg (by omega),if_neg (by omega)];omega
    unfold Ends at E1
    omega
   ·unfold Ends at E1
    omega
  have s2:-1≤frm L n 0 (nmE L (i+1))∧frm L n 0 (nmE L (i+1))≤(L.length:Int)+1:=by unfold Ends at E2;omega
  clear ho E1 E2 hr
  go_enter Tryz.func106,Tryz.ntmps106
  go_wp2_with fail
  refine (l4Sign_any a cap L i _ hA hL hi).mono ?_
  rintro e w1 ⟨rfl,hb1⟩
  rw [HO.out]
  have hA1:=hA.call hb1
  go_wp2_with fail
  refine (l4NameEnd_any a cap L (i+1) _ hA1 hL ⟨by omega,by omega⟩).mono ?_
  rintro e w2 ⟨rfl,hb2⟩
  have hA2:=hA1.call hb2
  have hB2:=bstep hb1 hb2
  go_wp2_with fail
  refine (IH.sum _ _ hA2 ⟨by omega,by omega⟩ (by omega)).mono ?_
  rintro e w3 ⟨rfl,hb3⟩
  have hA3:=hA2.call hb3
  have hB3:=bstep hB2 hb3
  go_wp2_with fail
  refine (l4Is_any a cap L _ [41] _ hA3 hL ⟨by omega,by omega⟩ (by decide)).mono ?_
  rintro e w4 ⟨rfl,hb4⟩
  go_wp2
  go_ret
  exact ⟨by rw [HV.out,HP.out];rfl,bstep hB3 hb4⟩
set_option maxHeartbeats 4000000 in
theorem sums_all (q:Nat) (IH:∀ m,m≤n→Forms a cap L m) (hA:ArgT w a L) (hq:q≤3) (h0:-1≤i) (h1:i≤(L.length:Int)+1) (hL:L.length≤1048576) (hn:8 * farN L i+2+q≤n+1) :
  Calls Tryz.prog 57 #[.slice a L.length cap,.int .i64 i,.int .i64 (q:Int)] w fun e w'=>e=.returned (.int .i64 (frm L (n+1) (8+q) i))∧Below w.heap.size w w':=by
 go_enter Tryz.func57,Tryz.ntmps57
 go_wp2
 go_loopw [1,2] (fun v1 v2 wr=>∃ (m k:Nat) (x:Int),v1=.int .i64 x∧v2=.int .i64 (k:Int)∧m≤n∧k≤3∧-1≤x∧x≤(L.length:Int)+1∧8 * farN L x+2+k≤m+1∧Hid (frm L (m+1) (8+k) x=frm L (n+1) (8+q) i)∧Below w.heap.size w wr) (fun _ v2 _=>(intOf v2).toNat)
 case atStart=>exact ⟨n,q,i,rfl,rfl,Nat.le_refl _,hq,h0,h1,hn,rfl,Below.refl _ _⟩
 case round =>
  obtain ⟨m,k,x,rfl,rfl,hm,hk,hx0,hx1,hf,HT,hB⟩:=hrel
  cases k with
  | zero =>
   have HE:Hid (frm L (n+1) (8+q) i=x):=(by rw [← HT.out,frm_sums];rfl:frm L (n+1) (8+q) i=x)
   clear HT
   go_wp2
   go_ret
   exact ⟨by rw [HE.out];rfl,hB⟩
  | succ j =>
   by_cases hneg:x < 0
   ·have HE:Hid (frm L (n+1) (8+q) i=x):=(by rw [← HT.out,frm_sums];show (if x < 0 then x else _)=x;rw [if_pos hneg]:frm L (n+1) (8+q) i=x)
    clear HT
    go_wp2
    go_ret
    exact ⟨by rw [HE.out];rfl,hB⟩
   ·have HE:Hid (frm L m (8+j) (frm L m 0 x)=frm L (n+1) (8+q) i):=(by rw [← HT.out,frm_sums];show _=(if x < 0 then x else _);rw [if_neg hneg]:frm L m (8+j) (frm L m 0 x)=frm L (n+1) (8+q) i)
    have hE:=(frm_good L m).1 0 x (by decide)
    have hfe:=far_ends hE hx1
    have hp:=far_pos (L:=L) (i:=x) (by omega) hx1
    have hA':=hA.call hB
    clear HT
    go_wp2_with fail
    refine ((IH m hm).sum x _ hA' ⟨by omega,by omega⟩ (by omega)).mono ?_
    rintro e w1 ⟨rfl,hb1⟩
    have hB1:=bstep hB hb1
    generalize frm L m 0 x=y at HE hE hfe
    unfold Ends at hE
    cases m with
    | zero=>omega
    | succ m' =>
     go_wp2
     go_roundw
     case rel=>exact ⟨m',j,y,rfl,by go_num,by omega,by omega,by omega,by omega,by omega,HE.out,hB1⟩
     case measure=>simp [intOf]
theorem many_stop {q:Nat} (hq:q≤3) (h:i < 0∨isW (sgAt L i) [41]=true):frm L (n+1) (4+q) i=i:=by
 rw [frm_many hq]
 unfold manyS
 rw [if_pos h]
theorem many_go {q:Nat} (hq:q≤3) (h:¬ (i < 0∨isW (sgAt L i) [41]=true)):frm L (n+1) (4+q) i=frm L n (4+q) (oneS L (frm L n) q i):=by
 rw [frm_many hq]
 unfold manyS
 rw [if_neg h]
set_option maxHeartbeats 4000000 in
theorem many_all0 (IH:∀ m,m≤n→Forms a cap L m) (hA:ArgT w a L) (h0:-1≤i) (h1:i≤(L.length:Int)+1) (hL:L.length≤1048576) (hn:8 * farN L i+2≤n+1) :
  Calls Tryz.prog 56 #[.slice a L.length cap,.int .i64 i,.int .i64 0] w fun e w'=>e=.returned (.int .i64 (frm L (n+1) (4+0) i))∧Below w.heap.size w w':=by
 go_enter Tryz.func56,Tryz.ntmps56
 go_wp2
 go_loopw [1] (fun v1 wr=>∃ (m:Nat) (x:Int),v1=.int .i64 x∧m≤n∧-1≤x∧x≤(L.length:Int)+1∧8 * farN L x+2≤m+1∧Hid (frm L (m+1) (4+0) x=frm L (n+1) (4+0) i)∧Below w.heap.size w wr) (fun v1 _=>farN L (intOf v1))
 case atStart=>exact ⟨n,i,rfl,Nat.le_refl _,h0,h1,hn,rfl,Below.refl _ _⟩
 case round =>
  obtain ⟨m,x,rfl,hm,hx0,hx1,hf,HT,hB⟩:=hrel
  by_cases hneg:x < 0
  ·have HE:Hid (frm L (n+1) (4+0) i=x):=(HT.out.symm.trans (many_stop (by decide) (Or.inl hneg)):frm L (n+1) (4+0) i=x)
   clear HT
   go_wp2
   go_ret
   exact ⟨by rw [HE.out];rfl,hB⟩
  have hA':=hA.call hB
  cases hw:isW (sgAt L x) [41]
  ·have HE:Hid (frm L m (4+0) (frm L m 0 x)=frm L (n+1) (4+0) i):=((HT.out.symm.trans (many_go (by decide) (by rw [hw];simp;omega))).symm:frm L m (4+0) (frm L m 0 x)=frm L (n+1) (4+0) i)
   have hE:Ends L x (frm L m 0 x):=oneS_ends (frm_good L m) 0 hx0
   have hfe:=far_ends hE hx1
   have hp:=far_pos (L:=L) (i:=x) (by omega) hx1
   have b41:((sgAt L x).toList == [41])=false:=hw
   clear HT hw
   go_wp2_with fail
   refine (l4Sign_any a cap L x _ hA' hL ⟨by omega,by omega⟩).mono ?_
   rintro e w1 ⟨rfl,hb1⟩
   have hA2:=hA'.call hb1
   have hB1:=bstep hB hb1
   generalize sgAt L x=t at b41
   go_wp2_with fail
   refine ((IH m hm).sum x _ hA2 ⟨by omega,by omega⟩ (by omega)).mono ?_
   rintro e w2 ⟨rfl,hb2⟩
   have hB2:=bstep hB1 hb2
   generalize frm L m 0 x=y at HE hE hfe
   unfold Ends at hE
   cases m with
   | zero=>omega
   | succ m' =>
    go_wp2
    go_roundw
    case rel=>exact ⟨m',y,rfl,by omega,by omega,by omega,by omega,HE.out,hB2⟩
    case measure=>simp [intOf];omega
  ·have HE:Hid (frm L (n+1) (4+0) i=x):=(HT.out.symm.trans (many_stop (by decide) (Or.inr hw)):frm L (n+1) (4+0) i=x)
   have HW:Hid (sgAt L x=⟨#[41]⟩):=isW_eq hw
   clear HT hw
   go_wp2_with fail
   refine (l4Sign_any a cap L x _ hA' hL ⟨by omega,by omega⟩).mono ?_
   rintro e w1 ⟨rfl,hb1⟩
   rw [HW.out]
   go_wp2
   go_ret
   exact ⟨by rw [HE.out];rfl,bstep hB hb1⟩
set_option maxHeartbeats 4000000 in
theorem many_all1 (_IH:∀ m,m≤n→Forms a cap L m) (hA:ArgT w a L) (h0:-1≤i) (h1:i≤(L.length:Int)+1) (hL:L.length≤1048576) (hn:8 * farN L i+2≤n+1) :
  Calls Tryz.prog 56 #[.slice a L.length cap,.int .i64 i,.int .i64 1] w fun e w'=>e=.returned (.int .i64 (frm L (n+1) (4+1) i))∧Below w.heap.size w w':=by
 go_enter Tryz.func56,Tryz.ntmps56
 go_wp2
 go_loopw [1] (fun v1 wr=>∃ (m:Nat) (x:Int),v1=.int .i64 x∧m≤n∧-1≤x∧x≤(L.length:Int)+1∧8 * farN L x+2≤m+1∧Hid (frm L (m+1) (4+1) x=frm L (n+1) (4+1) i)∧Below w.heap.size w wr) (fun v1 _=>farN L (intOf v1))
 case atStart=>exact ⟨n,i,rfl,Nat.le_refl _,h0,h1,hn,rfl,Below.refl _ _⟩
 case round =>
  obtain ⟨m,x,rfl,hm,hx0,hx1,hf,HT,hB⟩:=hrel
  by_cases hneg:x < 0
  ·have HE:Hid (frm L (n+1) (4+1) i=x):=(HT.out.symm.trans (many_stop (by decide) (Or.inl hneg)):frm L (n+1) (4+1) i=x)
   clear HT
   go_wp2
   go_ret
   exact ⟨by rw [HE.out];rfl,hB⟩
  have hA':=hA.call hB
  cases hw:isW (sgAt L x) [41]
  ·have HE:Hid (frm L m (4+1) (nmE L x)=frm L (n+1) (4+1) i):=((HT.out.symm.trans (many_go (by decide) (by rw [hw];simp;omega))).symm:frm L m (4+1) (nmE L x)=frm L (n+1) (4+1) i)
   have hE:Ends L x (nmE L x):=oneS_ends (frm_good L m) 1 hx0
   have hfe:=far_ends hE hx1
   have hp:=far_pos (L:=L) (i:=x) (by omega) hx1
   have b41:((sgAt L x).toList == [41])=false:=hw
   clear HT hw
   go_wp2_with fail
   refine (l4Sign_any a cap L x _ hA' hL ⟨by omega,by omega⟩).mono ?_
   rintro e w1 ⟨rfl,hb1⟩
   have hA2:=hA'.call hb1
   have hB1:=bstep hB hb1
   generalize sgAt L x=t at b41
   go_wp2_with fail
   refine (l4NameEnd_any a cap L x _ hA2 hL ⟨by omega,by omega⟩).mono ?_
   rintro e w2 ⟨rfl,hb2⟩
   have hB2:=bstep hB1 hb2
   generalize nmE L x=y at HE hE hfe
   unfold Ends at hE
   cases m with
   | zero=>omega
   | succ m' =>
    go_wp2
    go_roundw
    case rel=>exact ⟨m',y,rfl,by omega,by omega,by omega,by omega,HE.out,hB2⟩
    case measure=>simp [intOf];omega
  ·have HE:Hid (frm L (n+1) (4+1) i=x):=(HT.out.symm.trans (many_stop (by decide) (Or.inr hw)):frm L (n+1) (4+1) i=x)
   have HW:Hid (sgAt L x=⟨#[41]⟩):=isW_eq hw
   clear HT hw
   go_wp2_with fail
   refine (l4Sign_any a cap L x _ hA' hL ⟨by omega,by omega⟩).mono ?_
   rintro e w1 ⟨rfl,hb1⟩
   rw [HW.out]
   go_wp2
   go_ret
   exact ⟨by rw [HE.out];rfl,bstep hB hb1⟩
set_option maxHeartbeats 4000000 in
theorem many_all2 (IH:∀ m,m≤n→Forms a cap L m) (hA:ArgT w a L) (h0:-1≤i) (h1:i≤(L.length:Int)+1) (hL:L.length≤1048576) (hn:8 * farN L i+2≤n+1) :
  Calls Tryz.prog 56 #[.slice a L.length cap,.int .i64 i,.int .i64 2] w fun e w'=>e=.returned (.int .i64 (frm L (n+1) (4+2) i))∧Below w.heap.size w w':=by
 go_enter Tryz.func56,Tryz.ntmps56
 go_wp2
 go_loopw [1] (fun v1 wr=>∃ (m:Nat) (x:Int),v1=.int .i64 x∧m≤n∧-1≤x∧x≤(L.length:Int)+1∧8 * farN L x+2≤m+1∧Hid (frm L (m+1) (4+2) x=frm L (n+1) (4+2) i)∧Below w.heap.size w wr) (fun v1 _=>farN L (intOf v1))
 case atStart=>exact ⟨n,i,rfl,Nat.le_refl _,h0,h1,hn,rfl,Below.refl _ _⟩
 case round =>
  obtain ⟨m,x,rfl,hm,hx0,hx1,hf,HT,hB⟩:=hrel
  by_cases hneg:x < 0
  ·have HE:Hid (frm L (n+1) (4+2) i=x):=(HT.out.symm.trans (many_stop (by decide) (Or.inl hneg)):frm L (n+1) (4+2) i=x)
   clear HT
   go_wp2
   go_ret
   exact ⟨by rw [HE.out];rfl,hB⟩
  have hA':=hA.call hB
  cases hw:isW (sgAt L x) [41]
  ·have HE:Hid (frm L m (4+2) (frm L m 1 x)=frm L (n+1) (4+2) i):=((HT.out.symm.trans (many_go (by decide) (by rw [hw];simp;omega))).symm:frm L m (4+2) (frm L m 1 x)=frm L (n+1) (4+2) i)
   have hE:Ends L x (frm L m 1 x):=oneS_ends (frm_good L m) 2 hx0
   have hfe:=far_ends hE hx1
   have hp:=far_pos (L:=L) (i:=x) (by omega) hx1
   have b41:((sgAt L x).toList == [41])=false:=hw
   clear HT hw
   go_wp2_with fail
   refine (l4Sign_any a cap L x _ hA' hL ⟨by omega,by omega⟩).mono ?_
   rintro e w1 ⟨rfl,hb1⟩
   have hA2:=hA'.call hb1
   have hB1:=bstep hB hb1
   generalize sgAt L x=t at b41
   go_wp2_with fail
   refine ((IH m hm).deed x true _ hA2 ⟨by omega,by omega⟩ (by omega)).mono ?_
   rintro e w2 ⟨rfl,hb2⟩
   have hB2:=bstep hB1 hb2
   rw [show (if true=true then 1 else 2)=1 from rfl]
   generalize frm L m 1 x=y at HE hE hfe
   unfold Ends at hE
   cases m with
   | zero=>omega
   | succ m' =>
    go_wp2
    go_roundw
    case rel=>exact ⟨m',y,rfl,by omega,by omega,by omega,by omega,HE.out,hB2⟩
    case measure=>simp [intOf];omega
  ·have HE:Hid (frm L (n+1) (4+2) i=x):=(HT.out.symm.trans (many_stop (by decide) (Or.inr hw)):frm L (n+1) (4+2) i=x)
   have HW:Hid (sgAt L x=⟨#[41]⟩):=isW_eq hw
   clear HT hw
   go_wp2_with fail
   refine (l4Sign_any a cap L x _ hA' hL ⟨by omega,by omega⟩).mono ?_
   rintro e w1 ⟨rfl,hb1⟩
   rw [HW.out]
   go_wp2
   go_ret
   exact ⟨by rw [HE.out];rfl,bstep hB hb1⟩
set_option maxHeartbeats 4000000 in
theorem many_all3 (IH:∀ m,m≤n→Forms a cap L m) (hA:ArgT w a L) (h0:-1≤i) (h1:i≤(L.length:Int)+1) (hL:L.length≤1048576) (hn:8 * farN L i+2≤n+1) :
  Calls Tryz.prog 56 #[.slice a L.length cap,.int .i64 i,.int .i64 3] w fun e w'=>e=.returned (.int .i64 (frm L (n+1) (4+3) i))∧Below w.heap.size w w':=by
 go_enter Tryz.func56,Tryz.ntmps56
 go_wp2
 go_loopw [1] (fun v1 wr=>∃ (m:Nat) (x:Int),v1=.int .i64 x∧m≤n∧-1≤x∧x≤(L.length:Int)+1∧8 * farN L x+2≤m+1∧Hid (frm L (m+1) (4+3) x=frm L (n+1) (4+3) i)∧Below w.heap.size w wr) (fun v1 _=>farN L (intOf v1))
 case atStart=>exact ⟨n,i,rfl,Nat.le_refl _,h0,h1,hn,rfl,Below.refl _ _⟩
 case round =>
  obtain ⟨m,x,rfl,hm,hx0,hx1,hf,HT,hB⟩:=hrel
  by_cases hneg:x < 0
  ·have HE:Hid (frm L (n+1) (4+3) i=x):=(HT.out.symm.trans (many_stop (by decide) (Or.inl hneg)):frm L (n+1) (4+3) i=x)
   clear HT
   go_wp2
   go_ret
   exact ⟨by rw [HE.out];rfl,hB⟩
  have hA':=hA.call hB
  cases hw:isW (sgAt L x) [41]
  ·have HE:Hid (frm L m (4+3) (frm L m 3 x)=frm L (n+1) (4+3) i):=((HT.out.symm.trans (many_go (by decide) (by rw [hw];simp;omega))).symm:frm L m (4+3) (frm L m 3 x)=frm L (n+1) (4+3) i)
   have hE:Ends L x (frm L m 3 x):=oneS_ends (frm_good L m) 3 hx0
   have hfe:=far_ends hE hx1
   have hp:=far_pos (L:=L) (i:=x) (by omega) hx1
   have b41:((sgAt L x).toList == [41])=false:=hw
   clear HT hw
   go_wp2_with fail
   refine (l4Sign_any a cap L x _ hA' hL ⟨by omega,by omega⟩).mono ?_
   rintro e w1 ⟨rfl,hb1⟩
   have hA2:=hA'.call hb1
   have hB1:=bstep hB hb1
   generalize sgAt L x=t at b41
   go_wp2_with fail
   refine ((IH m hm).par x _ hA2 ⟨by omega,by omega⟩ (by omega)).mono ?_
   rintro e w2 ⟨rfl,hb2⟩
   have hB2:=bstep hB1 hb2
   generalize frm L m 3 x=y at HE hE hfe
   unfold Ends at hE
   cases m with
   | zero=>omega
   | succ m' =>
    go_wp2
    go_roundw
    case rel=>exact ⟨m',y,rfl,by omega,by omega,by omega,by omega,HE.out,hB2⟩
    case measure=>simp [intOf];omega
  ·have HE:Hid (frm L (n+1) (4+3) i=x):=(HT.out.symm.trans (many_stop (by decide) (Or.inr hw)):frm L (n+1) (4+3) i=x)
   have HW:Hid (sgAt L x=⟨#[41]⟩):=isW_eq hw
   clear HT hw
   go_wp2_with fail
   refine (l4Sign_any a cap L x _ hA' hL ⟨by omega,by omega⟩).mono ?_
   rintro e w1 ⟨rfl,hb1⟩
   rw [HW.out]
   go_wp2
   go_ret
   exact ⟨by rw [HE.out];rfl,bstep hB hb1⟩
end
theorem forms_all (a:Option Addr) (cap:Nat) (L:List ByteArray) (hL:L.length≤1048576) (n:Nat):Forms a cap L n:=by
 induction n using Nat.strongRecOn with
 | ind n ih =>
  cases n with
  | zero=>exact ⟨fun i w _ _ h=>by omega,fun i f w _ _ h=>by omega,fun i w _ _ h=>by omega,fun q i w _ _ _ _ h=>by omega,fun q i w _ _ _ _ h=>by omega⟩
  | succ n =>
   have IH:∀ m,m≤n→Forms a cap L m:=fun m hm=>ih m (by omega)
   refine ⟨fun i w hA hi hn=>sum_all (IH n (Nat.le_refl _)) hA hL hi hn,fun i f w hA hi hn=>deed_all f (IH n (Nat.le_refl _)) hA hL hi hn,fun i w hA hi hn=>par_all (IH n (Nat.le_refl _)) hA hL hi hn,fun q i w hA hq h0 h1 hn=>?_,fun q i w hA hq h0 h1 hn=>sums_all q IH hA hq h0 h1 hL hn⟩
   obtain rfl | rfl | rfl | rfl:q=0∨q=1∨q=2∨q=3:=by omega
   ·exact many_all0 IH hA h0 h1 hL hn
   ·exact many_all1 IH hA h0 h1 hL hn
   ·exact many_all2 IH hA h0 h1 hL hn
   ·exact many_all3 IH hA h0 h1 hL hn
end Go.Proofs.YtdgihicpjonjgaaGreatDoor
namespace Go.Proofs.YtdgihicpjonjgaaGreatDoor
open Go.RowKit
theorem itemF_ends (L:List ByteArray):∀ f i o,itemF L f i o=-1∨((i:Int) < itemF L f i o∧itemF L f i o≤(L.length:Int))
 | 0,_,_=>Or.inl rfl
 | f+1,i,o=>by
  unfold itemF
  split
  ·split
   ·have:=itemF_ends L f (i+1) (o+1);omega
   ·split
    ·split
     ·left;rfl
     ·split
      ·right;omega
      ·have:=itemF_ends L f (i+1) (o - 1);omega
    ·split
     ·right;omega
     ·have:=itemF_ends L f (i+1) o;omega
  ·left;rfl
theorem itemE_ends (L:List ByteArray) (i:Int):Ends L i (itemE L i):=by
 unfold itemE Ends
 split
 ·left;rfl
 ·have:=itemF_ends L (L.length+1) i.toNat 0
  omega
def dpF (L:List ByteArray):Nat→Nat→Int→Int→Int
 | 0,_,_,m=>m
 | f+1,i,n,m =>
  if isW (L.getD i ⟨#[]⟩) [40] then dpF L f (i+1) (n+1) (max m (n+1))
  else if isW (L.getD i ⟨#[]⟩) [41] then dpF L f (i+1) (n - 1) m else dpF L f (i+1) n m
def depE (L:List ByteArray) (i:Int):Int:=if itemE L i < 0 then -1 else dpF L (itemE L i - i).toNat i.toNat 0 0
set_option maxHeartbeats 400000 in
theorem l1Max_any (x y:Int) (w:World) :
  Calls Tryz.prog 51 #[.int .i64 x,.int .i64 y] w fun e w'=>e=.returned (.int .i64 (max x y))∧w'=w:=by
 by_cases h:y < x
 ·have HM:Hid (max x y=x):=(by omega:max x y=x)
  go_enter Tryz.func51,Tryz.ntmps51
  go_wp2
  go_ret
  exact ⟨by rw [HM.out];rfl,rfl⟩
 ·have HM:Hid (max x y=y):=(by omega:max x y=y)
  go_enter Tryz.func51,Tryz.ntmps51
  go_wp2
  go_ret
  exact ⟨by rw [HM.out];rfl,rfl⟩
set_option maxHeartbeats 2000000 in
theorem depthOfS_any (a:Option Addr) (cap:Nat) (L:List ByteArray) (i:Int) (w:World) (h:ArgT w a L) (hL:L.length≤1048576) (hi:I64 i) :
  Calls Tryz.prog 34 #[.slice a L.length cap,.int .i64 i] w fun e w'=>e=.returned (.int .i64 (depE L i))∧Below w.heap.size w w':=by
 have hE:=itemE_ends L i
 by_cases hneg:itemE L i < 0
 ·have HD:Hid (depE L i=-1):=(by unfold depE;rw [if_pos hneg]:depE L i=-1)
  go_enter Tryz.func34,Tryz.ntmps34
  go_wp2_with fail
  refine (itemEndS_any a cap L i _ h hL hi).mono ?_
  rintro e w1 ⟨rfl,hb1⟩
  generalize itemE L i=e at hneg
  go_wp2
  go_ret
  exact ⟨by rw [HD.out];rfl,hb1⟩
 have HD:Hid (depE L i=dpF L (itemE L i - i).toNat i.toNat 0 0):=(by unfold depE;rw [if_neg hneg]:depE L i=dpF L (itemE L i - i).toNat i.toNat 0 0)
 unfold Ends at hE
 obtain ⟨k0,rfl⟩:∃ k:Nat,i=(k:Int):=⟨i.toNat,by omega⟩
 go_enter Tryz.func34,Tryz.ntmps34
 go_wp2_with fail
 refine (itemEndS_any a cap L (k0:Int) _ h hL hi).mono ?_
 rintro e w1 ⟨rfl,hb1⟩
 generalize itemE L (k0:Int)=E at hneg hE HD
 obtain ⟨e0,rfl⟩:∃ k:Nat,E=(k:Int):=⟨E.toNat,by omega⟩
 have hA1:=h.call hb1
 go_wp2
 go_loopw [1,6,7] (fun v1 v6 v7 wr=>∃ (k:Nat) (n m:Int),v1=.int .i64 (k:Int)∧v6=.int .i64 n∧v7=.int .i64 m∧k≤e0∧-(k:Int)≤n∧n≤(k:Int)∧0≤m∧m≤1048576∧Hid (dpF L (e0 - k) k n m=depE L (k0:Int))∧Below w.heap.size w wr) (fun v1 _ _ _=>e0 - (intOf v1).toNat)
 case atStart=>exact ⟨k0,0,0,rfl,rfl,rfl,by omega,by omega,by omega,by omega,by omega,by rw [HD.out,show ((e0:Int) - (k0:Int)).toNat=e0 - k0 by omega];rfl,hb1⟩
 case round =>
  obtain ⟨k,n,m,rfl,rfl,rfl,hk,hn0,hn1,hm0,hm1,HT,hB⟩:=hrel
  by_cases hlt:k < e0
  ·have hk':k < L.length:=by omega
   obtain ⟨sb,off,rfl,hs,hc,_⟩:=h k hk'
   have hc':=(hB.cell (p:=⟨sb,off+k,none⟩) hs).trans hc
   have hG:L.getD k ⟨#[]⟩=L[k]:=by simp [List.getD,hk']
   have hstep:e0 - k=(e0 - (k+1))+1:=by omega
   have hT:=HT.out
   rw [hstep] at hT
   unfold dpF at hT
   rw [hG] at hT
   cases h40:isW L[k] [40]
   ·cases h41:isW L[k] [41]
    ·rw [h40,h41] at hT
     have HN:Hid (dpF L (e0 - (k+1)) (k+1) n m=depE L (k0:Int)):=hT
     have b40:(L[k].toList == [40])=false:=h40
     have b41:(L[k].toList == [41])=false:=h41
     clear h40 h41 HT hc hT hG hstep HD
     generalize L[k]=t at hc' b40 b41
     go_wp2
     go_roundw
     case rel=>exact ⟨k+1,n,m,by go_num,rfl,rfl,by omega,by omega,by omega,hm0,hm1,HN.out,hB⟩
     case measure=>simp [intOf];omega
    ·rw [h40,h41] at hT
     have HN:Hid (dpF L (e0 - (k+1)) (k+1) (n - 1) m=depE L (k0:Int)):=hT
     have b40:(L[k].toList == [40])=false:=h40
     have b41:(L[k].toList == [41])=true:=h41
     clear h40 h41 HT hc hT hG hstep HD
     generalize L[k]=t at hc' b40 b41
     go_wp2
     go_roundw
     case rel=>exact ⟨k+1,n - 1,m,by go_num,rfl,rfl,by omega,by omega,by omega,hm0,hm1,HN.out,hB⟩
     case measure=>simp [intOf];omega
   ·rw [h40] at hT
    have HN:Hid (dpF L (e0 - (k+1)) (k+1) (n+1) (max m (n+1))=depE L (k0:Int)):=hT
    have b40:(L[k].toList == [40])=true:=h40
    clear h40 HT hc hT hG hstep HD
    generalize L[k]=t at hc' b40
    go_wp2_with fail
    refine (l1Max_any m (n+1) _).mono ?_
    rintro e w2 ⟨rfl,rfl⟩
    have hmx:0≤max m (n+1)∧max m (n+1)≤1048576:=by omega
    generalize max m (n+1)=M at HN hmx
    go_wp2
    go_roundw
    case rel=>exact ⟨k+1,n+1,M,by go_num,rfl,rfl,by omega,by omega,by omega,hmx.1,hmx.2,HN.out,hB⟩
    case measure=>simp [intOf];omega
  ·have e1:k=e0:=by omega
   subst e1
   have HE:Hid (depE L (k0:Int)=m):=(by rw [← HT.out,Nat.sub_self];rfl:depE L (k0:Int)=m)
   clear HT HD
   go_wp2
   go_ret
   exact ⟨by rw [HE.out];rfl,hB⟩
def playF (L:List ByteArray):Nat→Int→Bool
 | 0,i=>decide (i=(L.length:Int))
 | f+1,i=>if 0≤i∧i < (L.length:Int) then (if 60 < depE L i then false else playF L f (frm L (8 * L.length+40) 1 i)) else decide (i=(L.length:Int))
def playB (L:List ByteArray):Bool:=decide (L.length≤2000) && (signsB L && playF L (L.length+1) 0)
theorem playF_end {L:List ByteArray} {f:Nat} {i:Int} (h:¬ (0≤i∧i < (L.length:Int))):playF L f i=decide (i=(L.length:Int)):=by
 cases f with
 | zero=>rfl
 | succ f=>unfold playF;rw [if_neg h]
theorem playF_deep {L:List ByteArray} {f:Nat} {i:Int} (h:0≤i∧i < (L.length:Int)) (hd:60 < depE L i):playF L (f+1) i=false:=by
 unfold playF
 rw [if_pos h,if_pos hd]
theorem playF_go {L:List ByteArray} {f:Nat} {i:Int} (h:0≤i∧i < (L.length:Int)) (hd:¬ 60 < depE L i):playF L (f+1) i=playF L f (frm L (8 * L.length+40) 1 i):=by
 show (if 0≤i∧i < (L.length:Int) then (if 60 < depE L i then false else playF L f (frm L (8 * L.length+40) 1 i)) else decide (i=(L.length:Int)))=_
 rw [if_pos h,if_neg hd]
set_option maxHeartbeats 2000000 in
theorem playOkS_any (a:Option Addr) (cap:Nat) (L:List ByteArray) (w:World) (h:ArgT w a L) (hL:L.length≤1048576) :
  Calls Tryz.prog 21 #[.slice a L.length cap] w fun e w'=>e=.returned (.bool (playB L))∧Below w.heap.size w w':=by
 by_cases hbig:2000 < L.length
 ·have HP:Hid (playB L=false):=(by unfold playB;rw [decide_eq_false (by omega)];rfl:playB L=false)
  go_enter Tryz.func21,Tryz.ntmps21
  go_wp2
  go_ret
  exact ⟨by rw [HP.out];rfl,Below.refl _ _⟩
 cases hs:signsB L
 ·have HP:Hid (playB L=false):=(by unfold playB;rw [hs];simp:playB L=false)
  have HQ:Hid (signsB L=false):=hs
  clear hs
  go_enter Tryz.func21,Tryz.ntmps21
  go_wp2_with fail
  refine (l2Signs_any a cap L _ h hL).mono ?_
  rintro e w1 ⟨rfl,hb1⟩
  rw [HQ.out]
  go_wp2
  go_ret
  exact ⟨by rw [HP.out];rfl,hb1⟩
 have HP:Hid (playB L=playF L (L.length+1) 0):=(by unfold playB;rw [hs,decide_eq_true (by omega)];rfl:playB L=playF L (L.length+1) 0)
 have HQ:Hid (signsB L=true):=hs
 clear hs
 go_enter Tryz.func21,Tryz.ntmps21
 go_wp2_with fail
 refine (l2Signs_any a cap L _ h hL).mono ?_
 rintro e w1 ⟨rfl,hb1⟩
 rw [HQ.out]
 go_wp2
 go_loopw [3] (fun v wr=>∃ (f:Nat) (x:Int),v=.int .i64 x∧-1≤x∧x≤(L.length:Int)∧(L.length:Int)≤x+f∧Hid (playF L f x=playB L)∧Below w.heap.size w wr∨v=.int .i64 (-1)∧playB L=false∧f=0∧x=0∧Below w.heap.size w wr) (fun v _=>farN L (intOf v))
 case atStart=>exact ⟨L.length+1,0,Or.inl ⟨rfl,by omega,by omega,by omega,HP.out.symm,hb1⟩⟩
 case round =>
  obtain ⟨f,x,hrel⟩:=hrel
  rcases hrel with ⟨rfl,hx0,hx1,hf,HT,hB⟩ | ⟨rfl,hp,_,_,hB⟩
  ·by_cases hin:0≤x∧x < (L.length:Int)
   ·obtain ⟨h0,h1⟩:=hin
    have hA:=h.call hB
    obtain ⟨g,rfl⟩:∃ g,f=g+1:=⟨f - 1,by omega⟩
    by_cases hd:60 < depE L x
    ·have HE:Hid (playB L=false):=(HT.out.symm.trans (playF_deep ⟨h0,h1⟩ hd):playB L=false)
     clear HT HP
     go_wp2_with fail
     refine (depthOfS_any a cap L x _ hA hL ⟨by omega,by omega⟩).mono ?_
     rintro e w2 ⟨rfl,hb2⟩
     generalize depE L x=D at hd
     go_wp2
     go_ret
     exact ⟨by rw [HE.out];rfl,bstep hB hb2⟩
    ·have HE:Hid (playF L g (frm L (8 * L.length+40) 1 x)=playB L):=((HT.out.symm.trans (playF_go ⟨h0,h1⟩ hd)).symm:playF L g (frm L (8 * L.length+40) 1 x)=playB L)
     have hE:=(frm_good L (8 * L.length+40)).1 1 x (by decide)
     have hfe:=far_ends hE (by omega)
     have hp:=far_pos (L:=L) (i:=x) h0 (by omega)
     have hfar:8 * farN L x+1≤8 * L.length+40:=by unfold farN;rw [if_neg (by omega)];omega
     clear HT HP
     go_wp2_with fail
     refine (depthOfS_any a cap L x _ hA hL ⟨by omega,by omega⟩).mono ?_
     rintro e w2 ⟨rfl,hb2⟩
     have hA2:=hA.call hb2
     have hB2:=bstep hB hb2
     generalize depE L x=D at hd
     go_wp2_with fail
     refine ((forms_all a cap L hL (8 * L.length+40)).deed x true _ hA2 ⟨by omega,by omega⟩ hfar).mono ?_
     rintro e w3 ⟨rfl,hb3⟩
     have hB3:=bstep hB2 hb3
     rw [show (if true=true then 1 else 2)=1 from rfl]
     generalize frm L (8 * L.length+40) 1 x=y at HE hE hfe
     unfold Ends at hE
     go_wp2
     go_roundw
     case rel =>
      by_cases hy:y=-1
      ·refine ⟨0,0,Or.inr ⟨by rw [hy],?_,rfl,rfl,hB3⟩⟩
       rw [← HE.out,hy,playF_end (by omega)]
       exact decide_eq_false (by omega)
      ·exact ⟨g,y,Or.inl ⟨rfl,by omega,by omega,by omega,HE.out,hB3⟩⟩
     case measure=>simp [intOf];omega
   ·have HE:Hid (playB L=decide (x=(L.length:Int))):=(HT.out.symm.trans (playF_end hin):playB L=decide (x=(L.length:Int)))
    clear HT HP
    by_cases hneg:x < 0
    ·have hne:(x == (L.length:Int))=false:=by simp;omega
     have HF:Hid (playB L=false):=(by rw [HE.out];exact decide_eq_false (by omega):playB L=false)
     go_wp2
     go_ret
     exact ⟨by rw [HF.out];rfl,hB⟩
    ·have e1:x=(L.length:Int):=by omega
     subst e1
     have HF:Hid (playB L=true):=(by rw [HE.out];exact decide_eq_true rfl:playB L=true)
     go_wp2
     go_ret
     exact ⟨by rw [HF.out];simp,hB⟩
  ·have HF:Hid (playB L=false):=hp
   clear hp HP
   have hne:((-1:Int) == (L.length:Int))=false:=beq_eq_false_iff_ne.mpr (by omega)
   go_wp2
   go_ret
   exact ⟨by rw [HF.out];rfl,hB⟩
end Go.Proofs.YtdgihicpjonjgaaGreatDoor
