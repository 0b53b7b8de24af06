import Derived.Test.YtdojfommmpnbgaaGreatDoorKAN
import Derived.Test.YtdojfommmpnbgaaGreatDoorKAO
import Derived.Test.YtdojfommmpnbgaaGreatDoorKAQ
import Derived.Test.YtdojfommmpnbgaaGreatDoorKAM
import Derived.Laws.OwnMore
set_option maxHeartbeats 1000000
namespace Go.Proofs.YtdojfommmpnbgaaGreatDoor
open Go.RowKit Go.Proofs.Tryz
attribute [local go_sem] xX uj xY xZ uk x6 yc uo yd ya um yb yf uq yg
def eU(k n:Int)(s:ByteArray):ByteArray :=
 if et k n s then(if k=0 then⟨#[110,111,110,101]⟩else if k=1 then⟨(Lib.itoa n).toArray⟩else if k=2 then s else⟨#[]⟩)else⟨#[]⟩
def fN(k n:Int)(s:ByteArray):Int:=if et k n s=true∧k<3 then 0 else 1
theorem JF{k n:Int}{s:ByteArray}(h:et k n s=true):0≤k∧k≤5:=by
 unfold et at h;by_cases h0:k=0
 ·omega
 rw[if_neg h0]at h;by_cases h1:k=1
 ·omega
 rw[if_neg h1]at h;by_cases h2:k=2
 ·omega
 rw[if_neg h2]at h;by_cases h3:3≤k∧k≤5
 ·omega
 rw[if_neg h3]at h;exact absurd h (by decide)
theorem JG{n:Int}{s:ByteArray}(h:et 1 n s=true):-999999999≤n∧n≤999999999:=by
 simp[et,nZ]at h;exact h.1
theorem JH{n:Int}{s:ByteArray}(h:et 2 n s=true):s.size≤60:=by
 simp[et,fM]at h;exact h.1.2
theorem xr(k n:Int)(s:ByteArray)(w:World)(hs:s.size≤maxLen)(ht:dj w) :
  ah 202 #[.agg #[.int .i64 k,.int .i64 n,.string s]] w (aA (.tuple #[.string (eU k n s),.int .i64 (fN k n s)]) w):=by
 cases ho:et k n s
 ·have HX:Hid (eU k n s=⟨#[]⟩∧fN k n s=1):=by simp[Hid,eU,fN,ho]
  have HS:Hid (cL k n s=.iface 243 (.agg #[])):=by simp[Hid,cL,ho]
  clear ho;go_enter func202,ntmps202;go_wp2_with fail;refine(rF k n s _ hs).mono ?_;rintro e w' ⟨rfl,hb⟩;rw[HS.out];go_wp2;go_ret2;exact⟨by rw[HX.out.1,HX.out.2];rfl,(by repeat' first|(with_reducible first|exact Below.refl _ _|refine Below.drew ?_|refine ay ?_ _|refine bf ?_ _ ?_|refine aw ?_ (by assumption))|go_size)⟩
 obtain⟨hk0,hk5⟩:=JF ho;by_cases h0:k=0
 ·subst h0;have HX:Hid (eU 0 n s=⟨#[110,111,110,101]⟩∧fN 0 n s=0):=by simp[Hid,eU,fN,ho]
  have HS:Hid (cL 0 n s=.iface 233 (.agg #[])):=by simp[Hid,cL,ho,fH]
  clear ho;go_enter func202,ntmps202;go_wp2_with fail;refine(rF 0 n s _ hs).mono ?_;rintro e w' ⟨rfl,hb⟩;rw[HS.out];go_wp2;go_ret2;exact⟨by rw[HX.out.1,HX.out.2];rfl,(by repeat' first|(with_reducible first|exact Below.refl _ _|refine Below.drew ?_|refine ay ?_ _|refine bf ?_ _ ?_|refine aw ?_ (by assumption))|go_size)⟩
 by_cases h1:k=1
 ·subst h1;obtain⟨hn0,hn1⟩:=JG ho;have HX:Hid (eU 1 n s=⟨(Lib.itoa n).toArray⟩∧fN 1 n s=0):=by simp[Hid,eU,fN,ho]
  have HS:Hid (cL 1 n s=.iface 202 (.agg #[.int .i64 n])):=by simp[Hid,cL,ho,fH]
  clear ho;go_enter func202,ntmps202;go_wp2_with fail;refine(rF 1 n s _ hs).mono ?_;rintro e w' ⟨rfl,hb⟩;rw[HS.out];go_wp2_with fail;refine(zU n _ hn0 hn1 (ig ht (by repeat' first|(with_reducible first|exact Below.refl _ _|refine Below.drew ?_|refine ay ?_ _|refine bf ?_ _ ?_|refine aw ?_ (by assumption))|go_size))).mono ?_;rintro e w2 ⟨rfl,hb2⟩;go_wp2;go_ret2;exact⟨by rw[HX.out.1,HX.out.2];rfl,(by repeat' first|(with_reducible first|exact Below.refl _ _|refine Below.drew ?_|refine ay ?_ _|refine bf ?_ _ ?_|refine aw ?_ (by assumption))|go_size)⟩
 by_cases h2:k=2
 ·subst h2;have HX:Hid (eU 2 n s=s∧fN 2 n s=0):=by simp[Hid,eU,fN,ho]
  have HS:Hid (cL 2 n s=.iface 205 (.agg #[.string s])):=by simp[Hid,cL,ho,fH]
  clear ho;go_enter func202,ntmps202;go_wp2_with fail;refine(rF 2 n s _ hs).mono ?_;rintro e w' ⟨rfl,hb⟩;rw[HS.out];go_wp2;go_ret2;exact⟨by rw[HX.out.1,HX.out.2];rfl,(by repeat' first|(with_reducible first|exact Below.refl _ _|refine Below.drew ?_|refine ay ?_ _|refine bf ?_ _ ?_|refine aw ?_ (by assumption))|go_size)⟩
 ·have HX:Hid (eU k n s=⟨#[]⟩∧fN k n s=1):=by
   unfold Hid eU fN;rw[if_pos ho,if_neg h0,if_neg h1,if_neg h2,if_neg (by omega)];exact⟨rfl,rfl⟩
  have HS:Hid (cL k n s=.iface 250 (.agg #[.int .i64 k,.int .i64 n])):=by
   unfold Hid cL fH;rw[if_pos ho,if_neg h0,if_neg h1,if_neg h2,if_pos ⟨by omega,by omega⟩]
  clear ho
  go_enter func202,ntmps202
  go_wp2_with fail
  refine(rF k n s _ hs).mono ?_
  rintro e w' ⟨rfl,hb⟩
  rw[HS.out]
  go_wp2
  go_ret2
  exact⟨by rw[HX.out.1,HX.out.2];rfl,(by repeat' first|(with_reducible first|exact Below.refl _ _|refine Below.drew ?_|refine ay ?_ _|refine bf ?_ _ ?_|refine aw ?_ (by assumption))|go_size)⟩
theorem Kx(s:ByteArray)(w:World)(hs:s.size≤60)(h:da s=true) :
  ah 201 #[.string s,.int .i64 10,.int .i64 64] w (aA (.tuple #[.int .i64 (gz s),.nilIface]) w):=by
 refine(Tryz.strconv_ParseInt_10_at64_ok s (by omega) (gz s) (Ky ((fk s).mp h)).1 w).mono ?_;rintro e w' ⟨rfl,rfl|⟨t,rfl⟩⟩
 ·exact⟨rfl,Below.refl _ _⟩
 ·exact⟨rfl,⟨rfl,rfl,rfl,by rw[Lib.bytesWorld_size];omega,fun j hj=>Lib.bytesWorld_at_old w _ t j hj⟩⟩
theorem Jr{s:ByteArray}(h:da s=true):s.size≤10:=by
 have h1:=((fk s).mp h).2.1;have:=FT s;omega
theorem Lg(s:ByteArray)(w:World)(hs:s.size≤maxLen) :
  ah 180 #[.string s] w (aA (.tuple #[.int .i64 (ia s),.bool (da s)]) w):=by
 cases hn:da s
 ·have HB:Hid (da s=false∧ia s=0):=mQ hn;have HK:Hid ((bn s != 3)=true):=by
   show(bn s != 3)=true;rw[bne_iff_ne];intro h;rw[(fk s).mpr ((BS s).mpr h)]at hn;exact absurd hn (by decide)
  clear hn;go_enter func180,ntmps180;go_wp2_with fail;refine(ow s _ hs).mono ?_;rintro e w1 ⟨rfl,rfl⟩;generalize bn s=kd at HK ⊢;have hk:=HK.out;go_wp2;go_ret2;exact⟨by rw[HB.out.2];rfl,Below.refl _ _⟩
 ·have HB:Hid (da s=true∧ia s=gz s):=rb hn rfl;have hz:=Jr hn;have HK:Hid (bn s=3):=mJ ((fk s).mp hn);have HN:=aj hn;clear hn;go_enter func180,ntmps180;go_wp2_with fail;refine(ow s _ hs).mono ?_;rintro e w1 ⟨rfl,rfl⟩;rw[HK.out];go_wp2_with fail;refine(Kx s _ (by omega) HN.out).mono ?_;rintro e w2 ⟨rfl,hb⟩;go_wp2;go_quiet (fail);go_wp2;go_ret2;exact⟨by rw[HB.out.2];rfl,⟨hb.os,hb.tape,hb.output,hb.size,hb.block⟩⟩
def wO(s:ByteArray):ByteArray:=⟨#[39]⟩++s++⟨#[39]⟩
def kA(k n:Int)(s:ByteArray):ByteArray:=if fN k n s=0∧k=2 then wO (eU k n s)else eU k n s
theorem L4{n:Int}{s:ByteArray}(ho:et 2 n s=true):eU 2 n s=s∧fN 2 n s=0∧kA 2 n s=wO s:=by
 have h1:eU 2 n s=s:=by simp[eU,ho]
 have h2:fN 2 n s=0:=by simp[fN,ho]
 exact⟨h1,h2,by unfold kA;rw[if_pos ⟨h2,rfl⟩,h1]⟩
theorem xb{k n:Int}{s:ByteArray}(hk:k≠2):kA k n s=eU k n s:=by unfold kA;rw[if_neg (fun h=>hk h.2)]
theorem L2{k n:Int}{s:ByteArray}(ho:et k n s=false):eU k n s=⟨#[]⟩∧fN k n s=1∧kA k n s=⟨#[]⟩:=by
 have h1:eU k n s=⟨#[]⟩:=by simp[eU,ho]
 have h2:fN k n s=1:=by simp[fN,ho]
 exact⟨h1,h2,by unfold kA;rw[if_neg (by rw[h2];intro h;exact absurd h.1 (by decide)),h1]⟩
theorem xh(k n:Int)(s:ByteArray)(w:World)(hs:s.size≤maxLen)(ht:dj w) :
  ah 183 #[.agg #[.int .i64 k,.int .i64 n,.string s]] w (aA (.string (kA k n s)) w):=by
 have hT:∀W:World,ai w W→dj W:=fun W hb=>ig ht hb
 by_cases h2:k=2
 ·subst h2;cases ho:et 2 n s
  ·have HX:Hid (eU 2 n s=⟨#[]⟩∧fN 2 n s=1∧kA 2 n s=⟨#[]⟩):=L2 ho;clear ho;go_enter func183,ntmps183;go_wp2_with fail;refine(xr 2 n s _ hs (hT _ (by repeat' first|(with_reducible first|exact Below.refl _ _|refine Below.drew ?_|refine ay ?_ _|refine bf ?_ _ ?_|refine aw ?_ (by assumption))|go_size))).mono ?_;rintro e w1 ⟨rfl,hb1⟩;rw[HX.out.1,HX.out.2.1];go_wp2;go_ret;exact⟨by rw[HX.out.2.2];rfl,(by repeat' first|(with_reducible first|exact Below.refl _ _|refine Below.drew ?_|refine ay ?_ _|refine bf ?_ _ ?_|refine aw ?_ (by assumption))|go_size)⟩
  ·have hz:=JH ho;have HX:Hid (eU 2 n s=s∧fN 2 n s=0∧kA 2 n s=wO s):=L4 ho;clear ho;go_enter func183,ntmps183;go_wp2_with fail;refine(xr 2 n s _ hs (hT _ (by repeat' first|(with_reducible first|exact Below.refl _ _|refine Below.drew ?_|refine ay ?_ _|refine bf ?_ _ ?_|refine aw ?_ (by assumption))|go_size))).mono ?_;rintro e w1 ⟨rfl,hb1⟩;rw[HX.out.1,HX.out.2.1];obtain⟨hc,hf⟩:=ki hb1;go_wp2;go_ret;exact⟨by rw[HX.out.2.2];rfl,(by repeat' first|(with_reducible first|exact Below.refl _ _|refine Below.drew ?_|refine ay ?_ _|refine bf ?_ _ ?_|refine aw ?_ (by assumption))|go_size)⟩
 ·have b2:(k==2)=false:=by simpa using h2
  have HX:Hid (kA k n s=eU k n s):=xb h2;have hor:Hid (fN k n s=0∨fN k n s=1):=by unfold Hid fN;split<;>simp
  go_enter func183,ntmps183;go_wp2_with fail;refine(xr k n s _ hs (hT _ (by repeat' first|(with_reducible first|exact Below.refl _ _|refine Below.drew ?_|refine ay ?_ _|refine bf ?_ _ ?_|refine aw ?_ (by assumption))|go_size))).mono ?_;rintro e w1 ⟨rfl,hb1⟩;obtain⟨hc,hf⟩:=ki hb1;rcases hor.out with q|q
  all_goals
   rw[q]
   generalize hx:eU k n s=tx at HX ⊢
   clear q hor hx
   go_wp2
   go_ret
   exact⟨by rw[HX.out];rfl,(by repeat' first|(with_reducible first|exact Below.refl _ _|refine Below.drew ?_|refine ay ?_ _|refine bf ?_ _ ?_|refine aw ?_ (by assumption))|go_size)⟩
theorem Nk(s:ByteArray)(w:World) :
  ah 182 #[.agg #[.string s]] w fun e w' =>
   e=.returned (.agg #[.int .i64 2,.int .i64 0,.string s])∧ai w w':=by
 go_enter func182,ntmps182;go_wp2;go_returns;exact⟨rfl,by go_grown⟩
theorem tW(s:ByteArray)(w:World)(hs:s.size≤maxLen)(ht:dj w) :
  ah 153 #[.string s] w (aA (.tuple #[.agg #[.int .i64 (ik s),.int .i64 (il s),.string (im s)],.bool (fq s)]) w):=by
 have hT:∀W:World,ai w W→dj W:=fun W hb=>ig ht hb
 cases hn:da s
 ·cases hq:fY s
  ·have HV:Hid (ik s=0∧il s=0∧im s=⟨#[]⟩∧fq s=(s.toList==[110,111,110,101])):=xC hn hq;have H3:Hid ((bn s==3)=false):=by
    show(bn s==3)=false;rw[beq_eq_false_iff_ne];intro h;rw[(fk s).mpr ((BS s).mpr h)]at hn;exact absurd hn (by decide)
   have H4:Hid ((bn s==4)=false):=by
    show(bn s==4)=false;rw[beq_eq_false_iff_ne];intro h;rw[(jI s).mpr ((Lc s).mpr h)]at hq;exact absurd hq (by decide)
   have HG:=aj (by rw[xb (by decide)];simp[eU,et,iV,ByteArray.toList_eq]:kA 0 0 ⟨#[]⟩=⟨#[110,111,110,101]⟩);clear hn hq;go_enter func153,ntmps153;go_wp2_with fail;refine(ow s _ hs).mono ?_;rintro e w1 ⟨rfl,rfl⟩;generalize bn s=kd at H3 H4 ⊢;have h3:=H3.out;have h4:=H4.out;go_wp2_with fail;refine(xh 0 0 ⟨#[]⟩ _ (by decide) (hT _ (by repeat' first|(with_reducible first|exact Below.refl _ _|refine Below.drew ?_|refine ay ?_ _|refine bf ?_ _ ?_|refine aw ?_ (by assumption))|go_size))).mono ?_;rintro e w2 ⟨rfl,hb2⟩;rw[HG.out];obtain⟨hc,hf⟩:=ki hb2;go_wp2;exact bodyPost_ret (by simp[results,Tryz.results153,go_sem,hc];rfl) rfl ⟨by rw[HV.out.1,HV.out.2.1,HV.out.2.2.1,HV.out.2.2.2],(by repeat' first|(with_reducible first|exact Below.refl _ _|refine Below.drew ?_|refine ay ?_ _|refine bf ?_ _ ?_|refine aw ?_ (by assumption))|go_size)⟩
  ·have HV:Hid (ik s=2∧il s=0∧im s=s.extract 1 (s.size-1)∧fq s=true):=Dy hn hq;have HK:Hid (bn s=4):=nR ((jI s).mp hq);have h1:1<s.size:=((jI s).mp hq).1;clear hn hq;unfold maxLen at hs;go_enter func153,ntmps153;go_wp2_with fail;refine(ow s _ hs).mono ?_;rintro e w1 ⟨rfl,rfl⟩;rw[HK.out];go_wp2_with fail;refine(Nk _ _).mono ?_;rintro e w2 ⟨rfl,hb2⟩;obtain⟨hc,hf⟩:=ki hb2;go_wp2;exact bodyPost_ret (by simp[results,Tryz.results153,go_sem,hc];rfl) rfl ⟨by rw[HV.out.1,HV.out.2.1,HV.out.2.2.1,HV.out.2.2.2],(by repeat' first|(with_reducible first|exact Below.refl _ _|refine Below.drew ?_|refine ay ?_ _|refine bf ?_ _ ?_|refine aw ?_ (by assumption))|go_size)⟩
 ·have HN:Hid (da s=true∧ia s=gz s):=rb hn rfl;have HK:Hid (bn s=3):=mJ ((fk s).mp hn);have HV:Hid (ik s=1∧il s=gz s∧im s=⟨#[]⟩∧fq s=true):=Dx hn;clear hn;go_enter func153,ntmps153;go_wp2_with fail;refine(ow s _ hs).mono ?_;rintro e w1 ⟨rfl,rfl⟩;rw[HK.out];go_wp2_with fail;refine(Lg s _ hs).mono ?_;rintro e w2 ⟨rfl,hb2⟩;rw[HN.out.1,HN.out.2];obtain⟨hc,hf⟩:=ki hb2;have hz0:w.heap.size<w2.heap.size:=r8 hb2 _ (by simp);go_wp2_with fail;refine(xB _ _).mono ?_;rintro e w3 ⟨rfl,hb3⟩;obtain⟨hc3,hf3⟩:=ki hb3;go_wp2;exact bodyPost_ret (by simp[results,Tryz.results153,go_sem,hc,hz0,hc3];rfl) rfl ⟨by rw[HV.out.1,HV.out.2.1,HV.out.2.2.1,HV.out.2.2.2],(by repeat' first|(with_reducible first|exact Below.refl _ _|refine Below.drew ?_|refine ay ?_ _|refine bf ?_ _ ?_|refine aw ?_ (by assumption))|go_size)⟩
end Go.Proofs.YtdojfommmpnbgaaGreatDoor
namespace Go.Proofs.YtdojfommmpnbgaaGreatDoor
open Go.RowKit
def j9(S:Nat→Prop)(w:World)(a:Option Addr)(L:af):Prop:=(∀i (h:i<L.length),∃sb off,a=some ⟨sb,off,none⟩∧sb<w.heap.size∧¬S sb∧w.cell? ⟨sb,off+i,none⟩=some (.string L[i])∧L[i].size≤maxLen)∧∀S' W,aE S S' w W→dj W
theorem j9.OH{S S':Nat→Prop}{w w':World}{a:Option Addr}{L:af}(h:j9 S w a L)(hb:aE S S' w w'):j9 S' w' a L:=⟨fun i hi=>by
 obtain⟨sb,off,ha,hs,hn,hc,hm⟩:=h.1 i hi;exact⟨sb,off,ha,Nat.lt_of_lt_of_le hs hb.size,hb.not hs hn,(hb.cell _ hs hn).trans hc,hm⟩,fun S'' W hW=>h.2 S'' W (hb.trans hW)⟩
theorem j9.PB{S:Nat→Prop}{w:World}{a:Option Addr}{L:af}(h:j9 S w a L):dj w:=h.2 S w (aE.refl S w)
theorem j9.arg{S:Nat→Prop}{w:World}{a:Option Addr}{L:af}(h:j9 S w a L):aD w a L:=fun i hi=>by
 obtain⟨sb,off,ha,hs,hn,hc,hm⟩:=h.1 i hi;exact⟨sb,off,ha,hs,hc,hm⟩
theorem j9.at{S:Nat→Prop}{w:World}{a:Option Addr}{L:af}(h:j9 S w a L){i:Int}(h0:0≤i)(h1:i<(L.length:Int)):∃sb off,a=some ⟨sb,off,none⟩∧w.cell? ⟨sb,off+i.toNat,none⟩=some (.string (aa L i))∧(aa L i).size≤maxLen∧sb<w.heap.size∧¬S sb:=by
 obtain⟨sb,off,ha,hs,hn,hc,hm⟩:=h.1 i.toNat (by omega);rw[eT h0 h1];exact⟨sb,off,ha,hc,hm,hs,hn⟩
def di(S:Nat→Prop)(w:World)(a:Option Addr)(X:List Int):Prop:=∀i (h:i<X.length),∃sb off,a=some ⟨sb,off,none⟩∧sb<w.heap.size∧¬S sb∧w.cell? ⟨sb,off+i,none⟩=some (.int .i64 X[i])
theorem di.OH{S S':Nat→Prop}{w w':World}{a:Option Addr}{X:List Int}(h:di S w a X)(hb:aE S S' w w'):di S' w' a X:=fun i hi=>by
 obtain⟨sb,off,ha,hs,hn,hc⟩:=h i hi;exact⟨sb,off,ha,Nat.lt_of_lt_of_le hs hb.size,hb.not hs hn,(hb.cell _ hs hn).trans hc⟩
theorem di.call{S:Nat→Prop}{w w':World}{a:Option Addr}{X:List Int}(h:di S w a X)(hb:ai w w'):di S w' a X:=h.OH (aE.j S hb)
end Go.Proofs.YtdojfommmpnbgaaGreatDoor
