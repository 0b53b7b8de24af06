import Derived.Test.YtdojfommmpnbgaaGreatDoorKAI
import Derived.Deep.RegionHeld3
set_option maxHeartbeats 400000
namespace Go.Proofs.YtdojfommmpnbgaaGreatDoor
open Go.RowKit Go.Proofs.Tryz
theorem xX(v:Value)(w:World):(Instr.typeAssert (.iface 233 v) 231 233 true).run prog w=.ok (.tuple #[v,.bool true]) w:=by kernel_rfl
theorem uj(v:Value)(w:World):(Instr.typeAssert (.iface 233 v) 231 202 true).run prog w=.ok (.tuple #[.agg #[.int .i64 0],.bool false]) w:=by kernel_rfl
theorem xY(v:Value)(w:World):(Instr.typeAssert (.iface 233 v) 231 205 true).run prog w=.ok (.tuple #[.agg #[.string ⟨#[]⟩],.bool false]) w:=by kernel_rfl
theorem D1(v:Value)(w:World):(Instr.typeAssert (.iface 233 v) 231 250 true).run prog w=.ok (.tuple #[.agg #[.int .i64 0,.int .i64 0],.bool false]) w:=by kernel_rfl
theorem xZ(v:Value)(w:World):(Instr.typeAssert (.iface 202 v) 231 233 true).run prog w=.ok (.tuple #[.agg #[],.bool false]) w:=by kernel_rfl
theorem uk(v:Value)(w:World):(Instr.typeAssert (.iface 202 v) 231 202 true).run prog w=.ok (.tuple #[v,.bool true]) w:=by kernel_rfl
theorem x6(v:Value)(w:World):(Instr.typeAssert (.iface 202 v) 231 205 true).run prog w=.ok (.tuple #[.agg #[.string ⟨#[]⟩],.bool false]) w:=by kernel_rfl
theorem D2(v:Value)(w:World):(Instr.typeAssert (.iface 202 v) 231 250 true).run prog w=.ok (.tuple #[.agg #[.int .i64 0,.int .i64 0],.bool false]) w:=by kernel_rfl
theorem yc(v:Value)(w:World):(Instr.typeAssert (.iface 205 v) 231 233 true).run prog w=.ok (.tuple #[.agg #[],.bool false]) w:=by kernel_rfl
theorem uo(v:Value)(w:World):(Instr.typeAssert (.iface 205 v) 231 202 true).run prog w=.ok (.tuple #[.agg #[.int .i64 0],.bool false]) w:=by kernel_rfl
theorem yd(v:Value)(w:World):(Instr.typeAssert (.iface 205 v) 231 205 true).run prog w=.ok (.tuple #[v,.bool true]) w:=by kernel_rfl
theorem D4(v:Value)(w:World):(Instr.typeAssert (.iface 205 v) 231 250 true).run prog w=.ok (.tuple #[.agg #[.int .i64 0,.int .i64 0],.bool false]) w:=by kernel_rfl
theorem ya(v:Value)(w:World):(Instr.typeAssert (.iface 250 v) 231 233 true).run prog w=.ok (.tuple #[.agg #[],.bool false]) w:=by kernel_rfl
theorem um(v:Value)(w:World):(Instr.typeAssert (.iface 250 v) 231 202 true).run prog w=.ok (.tuple #[.agg #[.int .i64 0],.bool false]) w:=by kernel_rfl
theorem yb(v:Value)(w:World):(Instr.typeAssert (.iface 250 v) 231 205 true).run prog w=.ok (.tuple #[.agg #[.string ⟨#[]⟩],.bool false]) w:=by kernel_rfl
theorem D3(v:Value)(w:World):(Instr.typeAssert (.iface 250 v) 231 250 true).run prog w=.ok (.tuple #[v,.bool true]) w:=by kernel_rfl
theorem yf(v:Value)(w:World):(Instr.typeAssert (.iface 243 v) 231 233 true).run prog w=.ok (.tuple #[.agg #[],.bool false]) w:=by kernel_rfl
theorem uq(v:Value)(w:World):(Instr.typeAssert (.iface 243 v) 231 202 true).run prog w=.ok (.tuple #[.agg #[.int .i64 0],.bool false]) w:=by kernel_rfl
theorem yg(v:Value)(w:World):(Instr.typeAssert (.iface 243 v) 231 205 true).run prog w=.ok (.tuple #[.agg #[.string ⟨#[]⟩],.bool false]) w:=by kernel_rfl
theorem D7(v:Value)(w:World):(Instr.typeAssert (.iface 243 v) 231 250 true).run prog w=.ok (.tuple #[.agg #[.int .i64 0,.int .i64 0],.bool false]) w:=by kernel_rfl
attribute [local go_sem] xX uj xY D1 xZ uk x6 D2 yc uo yd D4 ya um yb D3 yf uq yg D7
theorem xc(w:World) :
  ah 216 #[.iface 233 (.agg #[])] w (aA (.bool true) w):=by
 go_enter func216,ntmps216;go_wp2;go_ret;exact⟨rfl,by go_grown⟩
theorem xd(n:Int)(w:World) :
  ah 216 #[.iface 202 (.agg #[.int .i64 n])] w (aA (.bool (nZ n)) w):=by
 go_enter func216,ntmps216;go_wp2_with fail;refine(Jm n _).mono ?_;rintro e w' ⟨rfl,rfl⟩;go_wp2;go_ret;exact⟨rfl,by go_grown⟩
theorem xf(s:ByteArray)(w:World)(hs:s.size≤maxLen) :
  ah 216 #[.iface 205 (.agg #[.string s])] w (aA (.bool (fM s)) w):=by
 go_enter func216,ntmps216;go_wp2_with fail;refine(Dp s _ hs).mono ?_;rintro e w' ⟨rfl,rfl⟩;go_wp2;go_ret;exact⟨rfl,by go_grown⟩
theorem xe(k n:Int)(w:World) :
  ah 216 #[.iface 250 (.agg #[.int .i64 k,.int .i64 n])] w (aA (.bool (decide (0≤n))) w):=by
 go_enter func216,ntmps216;go_wp2;go_ret;exact⟨rfl,by go_grown⟩
theorem Ma(w:World) :
  ah 216 #[.iface 243 (.agg #[])] w (aA (.bool false) w):=by
 go_enter func216,ntmps216;go_wp2;go_ret;exact⟨rfl,by go_grown⟩
def cL(k n:Int)(s:ByteArray):Value:=if et k n s then fH k n s else .iface 243 (.agg #[])
theorem xA(w:World) :
  ah 254 #[.agg #[]] w fun e w' =>
   e=.returned (.agg #[.int .i64 0,.int .i64 0,.string ⟨#[]⟩])∧ai w w':=by
 go_enter func254,ntmps254;go_wp2;go_returns;exact⟨rfl,by go_grown⟩
theorem Dw(s:ByteArray)(w:World) :
  ah 182 #[.agg #[.string s]] w fun e w' =>
   e=.returned (.agg #[.int .i64 2,.int .i64 0,.string s])∧ai w w':=by
 go_enter func182,ntmps182;go_wp2;go_returns;exact⟨rfl,by go_grown⟩
theorem Dv(k n:Int)(w:World) :
  ah 258 #[.agg #[.int .i64 k,.int .i64 n]] w fun e w' =>
   e=.returned (.agg #[.int .i64 k,.int .i64 n,.string ⟨#[]⟩])∧ai w w':=by
 go_enter func258,ntmps258;go_wp2;go_returns;exact⟨rfl,by go_grown⟩
theorem L6(n:Int)(s:ByteArray)(w:World) :
  ah 209 #[.agg #[.int .i64 1,.int .i64 n,.string s]] w fun e w' =>
   e=.returned (cL 1 n s)∧ai w w':=by
 cases hn:nZ n
 ·have HS:Hid (cL 1 n s=.iface 243 (.agg #[])):=by simp[Hid,cL,et,iV,hn]
  have HN:=aj hn;clear hn;go_enter func209,ntmps209;go_wp2_with fail;refine(j4 1 n s _).mono ?_;rintro e w' ⟨rfl,hb⟩;rw[show fH 1 n s=.iface 202 (.agg #[.int .i64 n])from rfl];go_wp2_with fail;first|go_region_with (go_at_call 216;refine(xd n _).mono ?_;rintro e w2 ⟨rfl,hb2⟩;rw[HN.out])|fail
  all_goals
   go_wp2
   go_ret
   exact⟨by rw[HS.out];rfl,(by repeat' first|(with_reducible first|exact Below.refl _ _|refine Below.drew ?_|refine ay ?_ _|refine bf ?_ _ ?_|refine aw ?_ (by assumption))|go_size)⟩
 rcases uM s with rfl|⟨he,hem⟩
 ·have HS:Hid (cL 1 n ⟨#[]⟩=.iface 202 (.agg #[.int .i64 n])):=by simp[Hid,cL,et,iV,fH,hn]
  have HN:=aj hn;clear hn;go_enter func209,ntmps209;go_wp2_with fail;refine(j4 1 n ⟨#[]⟩ _).mono ?_;rintro e w' ⟨rfl,hb⟩;rw[show fH 1 n ⟨#[]⟩=.iface 202 (.agg #[.int .i64 n])from rfl];go_wp2_with fail;obtain⟨o0,o1,o2,oz⟩:=kF w (.int .i64 1) (.int .i64 n) (.string ⟨#[]⟩) 171;obtain⟨p0,p1,p2,pz⟩:=ev hb oz o0 o1 o2;clear o0 o1 o2 oz;first|go_region_with (first|(go_at_call 216;refine(xd n _).mono ?_;rintro e w2 ⟨rfl,hb2⟩;rw[HN.out];obtain⟨q0,q1,q2,qz⟩:=ev hb2 pz p0 p1 p2)|(go_at_call 181;refine(xB n _).mono ?_;rintro e w3 ⟨rfl,hb3⟩;obtain⟨r0,r1,r2,rz⟩:=ev hb3 qz q0 q1 q2))|fail
  all_goals
   go_wp2
   go_ret
   exact⟨by rw[HS.out];rfl,(by repeat' first|(with_reducible first|exact Below.refl _ _|refine Below.drew ?_|refine ay ?_ _|refine bf ?_ _ ?_|refine aw ?_ (by assumption))|go_size)⟩
 ·have HS:Hid (cL 1 n s=.iface 243 (.agg #[])):=by simp[Hid,cL,et,iV,hn,he]
  have HN:=aj hn;clear hn;clear hem;go_enter func209,ntmps209;go_wp2_with fail;refine(j4 1 n s _).mono ?_;rintro e w' ⟨rfl,hb⟩;rw[show fH 1 n s=.iface 202 (.agg #[.int .i64 n])from rfl];go_wp2_with fail;obtain⟨o0,o1,o2,oz⟩:=kF w (.int .i64 1) (.int .i64 n) (.string s) 171;obtain⟨p0,p1,p2,pz⟩:=ev hb oz o0 o1 o2;clear o0 o1 o2 oz;first|go_region_with (first|(go_at_call 216;refine(xd n _).mono ?_;rintro e w2 ⟨rfl,hb2⟩;rw[HN.out];obtain⟨q0,q1,q2,qz⟩:=ev hb2 pz p0 p1 p2)|(go_at_call 181;refine(xB n _).mono ?_;rintro e w3 ⟨rfl,hb3⟩;obtain⟨r0,r1,r2,rz⟩:=ev hb3 qz q0 q1 q2))|fail
  all_goals
   go_wp2
   go_ret
   exact⟨by rw[HS.out];rfl,(by repeat' first|(with_reducible first|exact Below.refl _ _|refine Below.drew ?_|refine ay ?_ _|refine bf ?_ _ ?_|refine aw ?_ (by assumption))|go_size)⟩
theorem L5(n:Int)(s:ByteArray)(w:World) :
  ah 209 #[.agg #[.int .i64 0,.int .i64 n,.string s]] w fun e w' =>
   e=.returned (cL 0 n s)∧ai w w':=by
 rcases uM s with rfl|⟨he,hem⟩
 ·by_cases hn:n=0
  ·have HS:Hid (cL 0 n ⟨#[]⟩=.iface 233 (.agg #[])):=by simp[Hid,cL,et,iV,fH,hn]
   subst hn;go_enter func209,ntmps209;go_wp2_with fail;refine(j4 0 0 ⟨#[]⟩ _).mono ?_;rintro e w' ⟨rfl,hb⟩;rw[show fH 0 0 ⟨#[]⟩=.iface 233 (.agg #[])from rfl];go_wp2_with fail;obtain⟨o0,o1,o2,oz⟩:=kF w (.int .i64 0) (.int .i64 0) (.string ⟨#[]⟩) 171;obtain⟨p0,p1,p2,pz⟩:=ev hb oz o0 o1 o2;clear o0 o1 o2 oz;first|go_region_with (first|(go_at_call 216;refine(xc _).mono ?_;rintro e w2 ⟨rfl,hb2⟩;obtain⟨q0,q1,q2,qz⟩:=ev hb2 pz p0 p1 p2)|(go_at_call 254;refine(xA _).mono ?_;rintro e w3 ⟨rfl,hb3⟩;obtain⟨r0,r1,r2,rz⟩:=ev hb3 qz q0 q1 q2))|fail
   all_goals
    go_wp2
    go_ret
    exact⟨by rw[HS.out];rfl,(by repeat' first|(with_reducible first|exact Below.refl _ _|refine Below.drew ?_|refine ay ?_ _|refine bf ?_ _ ?_|refine aw ?_ (by assumption))|go_size)⟩
  ·have HS:Hid (cL 0 n ⟨#[]⟩=.iface 243 (.agg #[])):=by simp[Hid,cL,et,iV,hn]
   go_enter func209,ntmps209;go_wp2_with fail;refine(j4 0 n ⟨#[]⟩ _).mono ?_;rintro e w' ⟨rfl,hb⟩;rw[show fH 0 n ⟨#[]⟩=.iface 233 (.agg #[])from rfl];go_wp2_with fail;obtain⟨o0,o1,o2,oz⟩:=kF w (.int .i64 0) (.int .i64 n) (.string ⟨#[]⟩) 171;obtain⟨p0,p1,p2,pz⟩:=ev hb oz o0 o1 o2;clear o0 o1 o2 oz;first|go_region_with (first|(go_at_call 216;refine(xc _).mono ?_;rintro e w2 ⟨rfl,hb2⟩;obtain⟨q0,q1,q2,qz⟩:=ev hb2 pz p0 p1 p2)|(go_at_call 254;refine(xA _).mono ?_;rintro e w3 ⟨rfl,hb3⟩;obtain⟨r0,r1,r2,rz⟩:=ev hb3 qz q0 q1 q2))|fail
   all_goals
    go_wp2
    go_ret
    exact⟨by rw[HS.out];rfl,(by repeat' first|(with_reducible first|exact Below.refl _ _|refine Below.drew ?_|refine ay ?_ _|refine bf ?_ _ ?_|refine aw ?_ (by assumption))|go_size)⟩
 ·have HS:Hid (cL 0 n s=.iface 243 (.agg #[])):=by simp[Hid,cL,et,iV,he]
  clear hem;go_enter func209,ntmps209;go_wp2_with fail;refine(j4 0 n s _).mono ?_;rintro e w' ⟨rfl,hb⟩;rw[show fH 0 n s=.iface 233 (.agg #[])from rfl];go_wp2_with fail;obtain⟨o0,o1,o2,oz⟩:=kF w (.int .i64 0) (.int .i64 n) (.string s) 171;obtain⟨p0,p1,p2,pz⟩:=ev hb oz o0 o1 o2;clear o0 o1 o2 oz;first|go_region_with (first|(go_at_call 216;refine(xc _).mono ?_;rintro e w2 ⟨rfl,hb2⟩;obtain⟨q0,q1,q2,qz⟩:=ev hb2 pz p0 p1 p2)|(go_at_call 254;refine(xA _).mono ?_;rintro e w3 ⟨rfl,hb3⟩;obtain⟨r0,r1,r2,rz⟩:=ev hb3 qz q0 q1 q2))|fail
  all_goals
   go_wp2
   go_ret
   exact⟨by rw[HS.out];rfl,(by repeat' first|(with_reducible first|exact Below.refl _ _|refine Below.drew ?_|refine ay ?_ _|refine bf ?_ _ ?_|refine aw ?_ (by assumption))|go_size)⟩
theorem L9(n:Int)(s:ByteArray)(w:World)(hs:s.size≤maxLen) :
  ah 209 #[.agg #[.int .i64 2,.int .i64 n,.string s]] w fun e w' =>
   e=.returned (cL 2 n s)∧ai w w':=by
 cases hn:fM s
 ·have HS:Hid (cL 2 n s=.iface 243 (.agg #[])):=by simp[Hid,cL,et,hn]
  have HN:=aj hn;clear hn;go_enter func209,ntmps209;go_wp2_with fail;refine(j4 2 n s _).mono ?_;rintro e w' ⟨rfl,hb⟩;rw[show fH 2 n s=.iface 205 (.agg #[.string s])from rfl];go_wp2_with fail;first|go_region_with (go_at_call 216;refine(xf s _ hs).mono ?_;rintro e w2 ⟨rfl,hb2⟩;rw[HN.out])|fail
  all_goals
   go_wp2
   go_ret
   exact⟨by rw[HS.out];rfl,(by repeat' first|(with_reducible first|exact Below.refl _ _|refine Below.drew ?_|refine ay ?_ _|refine bf ?_ _ ?_|refine aw ?_ (by assumption))|go_size)⟩
 by_cases h0:n=0
 ·have HS:Hid (cL 2 n s=.iface 205 (.agg #[.string s])):=by simp[Hid,cL,et,fH,hn,h0]
  have HN:=aj hn;clear hn;subst h0;go_enter func209,ntmps209;go_wp2_with fail;refine(j4 2 0 s _).mono ?_;rintro e w' ⟨rfl,hb⟩;rw[show fH 2 0 s=.iface 205 (.agg #[.string s])from rfl];go_wp2_with fail;obtain⟨o0,o1,o2,oz⟩:=kF w (.int .i64 2) (.int .i64 0) (.string s) 171;obtain⟨p0,p1,p2,pz⟩:=ev hb oz o0 o1 o2;clear o0 o1 o2 oz;first|go_region_with (first|(go_at_call 216;refine(xf s _ hs).mono ?_;rintro e w2 ⟨rfl,hb2⟩;rw[HN.out];obtain⟨q0,q1,q2,qz⟩:=ev hb2 pz p0 p1 p2)|(go_at_call 182;refine(Dw s _).mono ?_;rintro e w3 ⟨rfl,hb3⟩;obtain⟨r0,r1,r2,rz⟩:=ev hb3 qz q0 q1 q2))|fail
  all_goals
   go_wp2
   go_ret
   exact⟨by rw[HS.out];rfl,(by repeat' first|(with_reducible first|exact Below.refl _ _|refine Below.drew ?_|refine ay ?_ _|refine bf ?_ _ ?_|refine aw ?_ (by assumption))|go_size)⟩
 ·have HS:Hid (cL 2 n s=.iface 243 (.agg #[])):=by simp[Hid,cL,et,hn,h0]
  have HN:=aj hn;clear hn;go_enter func209,ntmps209;go_wp2_with fail;refine(j4 2 n s _).mono ?_;rintro e w' ⟨rfl,hb⟩;rw[show fH 2 n s=.iface 205 (.agg #[.string s])from rfl];go_wp2_with fail;obtain⟨o0,o1,o2,oz⟩:=kF w (.int .i64 2) (.int .i64 n) (.string s) 171;obtain⟨p0,p1,p2,pz⟩:=ev hb oz o0 o1 o2;clear o0 o1 o2 oz;first|go_region_with (first|(go_at_call 216;refine(xf s _ hs).mono ?_;rintro e w2 ⟨rfl,hb2⟩;rw[HN.out];obtain⟨q0,q1,q2,qz⟩:=ev hb2 pz p0 p1 p2)|(go_at_call 182;refine(Dw s _).mono ?_;rintro e w3 ⟨rfl,hb3⟩;obtain⟨r0,r1,r2,rz⟩:=ev hb3 qz q0 q1 q2))|fail
  all_goals
   go_wp2
   go_ret
   exact⟨by rw[HS.out];rfl,(by repeat' first|(with_reducible first|exact Below.refl _ _|refine Below.drew ?_|refine ay ?_ _|refine bf ?_ _ ?_|refine aw ?_ (by assumption))|go_size)⟩
theorem L8(k n:Int)(s:ByteArray)(w:World)(h3:3≤k)(h5:k≤5) :
  ah 209 #[.agg #[.int .i64 k,.int .i64 n,.string s]] w fun e w' =>
   e=.returned (cL k n s)∧ai w w':=by
 have hk:∀S,fH k n S=.iface 250 (.agg #[.int .i64 k,.int .i64 n]):=by
  intro S;unfold fH;rw[if_neg (by omega),if_neg (by omega),if_neg (by omega),if_pos ⟨h3,h5⟩]
 have ho:∀S,et k n S=(decide (0≤n)&&iV S):=by
  intro S;unfold et;rw[if_neg (by omega),if_neg (by omega),if_neg (by omega),if_pos ⟨h3,h5⟩]
 have HK:=aj hk;have HO:=aj ho;clear hk ho;by_cases h0:0≤n
 ·have hd:decide (0≤n)=true:=decide_eq_true h0;have HD:=aj hd;clear hd;rcases uM s with rfl|⟨he,hem⟩
  ·have HS:Hid (cL k n ⟨#[]⟩=.iface 250 (.agg #[.int .i64 k,.int .i64 n])):=by
    unfold Hid cL;rw[HO.out ⟨#[]⟩,HK.out ⟨#[]⟩];simp[iV,h0]
   go_enter func209,ntmps209
   go_wp2_with fail
   refine(j4 k n ⟨#[]⟩ _).mono ?_
   rintro e w' ⟨rfl,hb⟩
   rw[HK.out ⟨#[]⟩]
   go_wp2_with fail
   obtain⟨o0,o1,o2,oz⟩:=kF w (.int .i64 k) (.int .i64 n) (.string ⟨#[]⟩) 171
   obtain⟨p0,p1,p2,pz⟩:=ev hb oz o0 o1 o2
   clear o0 o1 o2 oz
   first|go_region_with (first|(go_at_call 216;refine(xe k n _).mono ?_;rintro e w2 ⟨rfl,hb2⟩;rw[HD.out];obtain⟨q0,q1,q2,qz⟩:=ev hb2 pz p0 p1 p2)|(go_at_call 258;refine(Dv k n _).mono ?_;rintro e w3 ⟨rfl,hb3⟩;obtain⟨r0,r1,r2,rz⟩:=ev hb3 qz q0 q1 q2))|fail
   all_goals
    go_wp2
    go_ret
    exact⟨by rw[HS.out];rfl,(by repeat' first|(with_reducible first|exact Below.refl _ _|refine Below.drew ?_|refine ay ?_ _|refine bf ?_ _ ?_|refine aw ?_ (by assumption))|go_size)⟩
  ·have HS:Hid (cL k n s=.iface 243 (.agg #[])):=by
    unfold Hid cL;rw[HO.out s,HK.out s];simp[iV,he]
   clear hem
   go_enter func209,ntmps209
   go_wp2_with fail
   refine(j4 k n s _).mono ?_
   rintro e w' ⟨rfl,hb⟩
   rw[HK.out s]
   go_wp2_with fail
   obtain⟨o0,o1,o2,oz⟩:=kF w (.int .i64 k) (.int .i64 n) (.string s) 171
   obtain⟨p0,p1,p2,pz⟩:=ev hb oz o0 o1 o2
   clear o0 o1 o2 oz
   first|go_region_with (first|(go_at_call 216;refine(xe k n _).mono ?_;rintro e w2 ⟨rfl,hb2⟩;rw[HD.out];obtain⟨q0,q1,q2,qz⟩:=ev hb2 pz p0 p1 p2)|(go_at_call 258;refine(Dv k n _).mono ?_;rintro e w3 ⟨rfl,hb3⟩;obtain⟨r0,r1,r2,rz⟩:=ev hb3 qz q0 q1 q2))|fail
   all_goals
    go_wp2
    go_ret
    exact⟨by rw[HS.out];rfl,(by repeat' first|(with_reducible first|exact Below.refl _ _|refine Below.drew ?_|refine ay ?_ _|refine bf ?_ _ ?_|refine aw ?_ (by assumption))|go_size)⟩
 ·have hd:decide (0≤n)=false:=decide_eq_false h0;have HD:=aj hd;clear hd;have HS:Hid (cL k n s=.iface 243 (.agg #[])):=by
   unfold Hid cL;rw[HO.out s,HK.out s];simp[iV,h0]
  go_enter func209,ntmps209;go_wp2_with fail;refine(j4 k n s _).mono ?_;rintro e w' ⟨rfl,hb⟩;rw[HK.out s];go_wp2_with fail;first|go_region_with (go_at_call 216;refine(xe k n _).mono ?_;rintro e w2 ⟨rfl,hb2⟩;rw[HD.out])|fail
  all_goals
   go_wp2
   go_ret
   exact⟨by rw[HS.out];rfl,(by repeat' first|(with_reducible first|exact Below.refl _ _|refine Below.drew ?_|refine ay ?_ _|refine bf ?_ _ ?_|refine aw ?_ (by assumption))|go_size)⟩
theorem L7(k n:Int)(s:ByteArray)(w:World)(h:k<0∨5<k) :
  ah 209 #[.agg #[.int .i64 k,.int .i64 n,.string s]] w fun e w' =>
   e=.returned (cL k n s)∧ai w w':=by
 have HK:Hid (fH k n s=.iface 243 (.agg #[])):=by
  unfold Hid fH;rw[if_neg (by omega),if_neg (by omega),if_neg (by omega),if_neg (by omega)]
 have HO:Hid (et k n s=false):=by
  unfold Hid et;rw[if_neg (by omega),if_neg (by omega),if_neg (by omega),if_neg (by omega)]
 clear h;have HS:Hid (cL k n s=.iface 243 (.agg #[])):=by
  unfold Hid cL;rw[HO.out];simp
 go_enter func209,ntmps209;go_wp2_with fail;refine(j4 k n s _).mono ?_;rintro e w' ⟨rfl,hb⟩;rw[HK.out];go_wp2_with fail;first|go_region_with (go_at_call 216;refine(Ma _).mono ?_;rintro e w2 ⟨rfl,hb2⟩)|fail
 all_goals
  go_wp2
  go_ret
  exact⟨by rw[HS.out];rfl,(by repeat' first|(with_reducible first|exact Below.refl _ _|refine Below.drew ?_|refine ay ?_ _|refine bf ?_ _ ?_|refine aw ?_ (by assumption))|go_size)⟩
theorem rF(k n:Int)(s:ByteArray)(w:World)(hs:s.size≤maxLen) :
  ah 209 #[.agg #[.int .i64 k,.int .i64 n,.string s]] w fun e w' =>
   e=.returned (cL k n s)∧ai w w':=by
 by_cases h0:k=0
 ·subst h0;exact L5 n s w
 by_cases h1:k=1
 ·subst h1;exact L6 n s w
 by_cases h2:k=2
 ·subst h2;exact L9 n s w hs
 by_cases h3:3≤k∧k≤5
 ·exact L8 k n s w h3.1 h3.2
 ·exact L7 k n s w (by omega)
attribute [local go_sem] uj uk uo um uq
end Go.Proofs.YtdojfommmpnbgaaGreatDoor
