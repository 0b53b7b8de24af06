import Derived.Test.YtdojfommmpnbgaaGreatDoorKAI
import Derived.Test.YtdojfommmpnbgaaGreatDoorKAH
set_option maxHeartbeats 8000000
set_option maxRecDepth 100000
namespace Go.Proofs.YtdojfommmpnbgaaGreatDoor
open Go.RowKit Go.Proofs.Tryz
def nY(s:ByteArray):Bool:=s.toList==[110,111,110,101]
theorem Jl{s:ByteArray}(h:nY s=true):bn s=2:=by
 unfold nY at h;rw[ByteArray.toList_eq,beq_iff_eq]at h;have hs:s=⟨#[110,111,110,101]⟩:=jS h;rw[hs];rfl
def ik(s:ByteArray):Int:=if da s then 1 else if fY s then 2 else 0
def il(s:ByteArray):Int:=if da s then gz s else 0
def im(s:ByteArray):ByteArray:=if da s then⟨#[]⟩else if fY s then s.extract 1 (s.size-1)else⟨#[]⟩
def fq(s:ByteArray):Bool:=da s||fY s||nY s
theorem Dx{s:ByteArray}(h:da s=true):ik s=1∧il s=gz s∧im s=⟨#[]⟩∧fq s=true:=by simp[ik,il,im,fq,h]
theorem Dy{s:ByteArray}(h:da s=false)(hq:fY s=true):ik s=2∧il s=0∧im s=s.extract 1 (s.size-1)∧fq s=true:=by simp[ik,il,im,fq,h,hq]
theorem xC{s:ByteArray}(h:da s=false)(hq:fY s=false):ik s=0∧il s=0∧im s=⟨#[]⟩∧fq s=nY s:=by simp[ik,il,im,fq,h,hq]
theorem Jp{s:ByteArray}(h:nY s=true):da s=false∧fY s=false:=by
 have hk:=Jl h;constructor
 ·refine Bool.eq_false_iff.mpr fun hn=>?_
  rw[mJ ((fk s).mp hn)]at hk;exact absurd hk (by decide)
 ·refine Bool.eq_false_iff.mpr fun hn=>?_
  rw[nR ((jI s).mp hn)]at hk;exact absurd hk (by decide)
theorem xz(s:ByteArray)(w:World)(hs:s.size≤maxLen) :
  ah 143 #[.string s] w (aA (.tuple #[.agg #[.int .i64 (ik s),.int .i64 (il s),.string (im s)],.bool (fq s)]) w):=by
 cases hn:da s
 ·have HN:Hid (da s=false∧ia s=0):=mQ hn;cases ho:nY s
  ·have HO:(s.toList==[110,111,110,101])=false:=ho;cases hq:fY s
   ·have HQ:=aj hq;have HV:Hid (ik s=0∧il s=0∧im s=⟨#[]⟩∧fq s=false):=by
     obtain⟨a,b,c,d⟩:=xC hn hq;exact⟨a,b,c,d.trans ho⟩
    clear hn ho hq;go_enter func143,ntmps143;go_wp2_with fail;refine(lB s _ hs).mono ?_;rintro e w1 ⟨rfl,rfl⟩;rw[HN.out.1,HN.out.2];go_wp2_with fail;refine(sS s _ hs).mono ?_;rintro e w1 ⟨rfl,rfl⟩;rw[HQ.out];go_wp2;go_returns;exact⟨by rw[HV.out.1,HV.out.2.1,HV.out.2.2.1,HV.out.2.2.2],(by repeat' first|(with_reducible first|exact Below.refl _ _|refine Below.drew ?_|refine ay ?_ _|refine bf ?_ _ ?_|refine aw ?_ (by assumption))|go_size)⟩
   ·have HQ:=aj hq;have h1:1<s.size:=((jI s).mp hq).1;have HV:Hid (ik s=2∧il s=0∧im s=s.extract 1 (s.size-1)∧fq s=true):=Dy hn hq;clear hn ho hq;unfold maxLen at hs;go_enter func143,ntmps143;go_wp2_with fail;refine(lB s _ hs).mono ?_;rintro e w1 ⟨rfl,rfl⟩;rw[HN.out.1,HN.out.2];go_wp2_with fail;refine(sS s _ hs).mono ?_;rintro e w1 ⟨rfl,rfl⟩;rw[HQ.out];go_wp2;go_returns;exact⟨by rw[HV.out.1,HV.out.2.1,HV.out.2.2.1,HV.out.2.2.2],(by repeat' first|(with_reducible first|exact Below.refl _ _|refine Below.drew ?_|refine ay ?_ _|refine bf ?_ _ ?_|refine aw ?_ (by assumption))|go_size)⟩
  ·have HO:(s.toList==[110,111,110,101])=true:=ho;have HV:Hid (ik s=0∧il s=0∧im s=⟨#[]⟩∧fq s=true):=by
    obtain⟨a,b,c,d⟩:=xC hn (Jp ho).2;exact⟨a,b,c,d.trans ho⟩
   clear hn ho;go_enter func143,ntmps143;go_wp2_with fail;refine(lB s _ hs).mono ?_;rintro e w1 ⟨rfl,rfl⟩;rw[HN.out.1,HN.out.2];go_wp2;go_returns;exact⟨by rw[HV.out.1,HV.out.2.1,HV.out.2.2.1,HV.out.2.2.2],(by repeat' first|(with_reducible first|exact Below.refl _ _|refine Below.drew ?_|refine ay ?_ _|refine bf ?_ _ ?_|refine aw ?_ (by assumption))|go_size)⟩
 ·have HN:Hid (da s=true∧ia s=gz s):=rb hn rfl;have HV:Hid (ik s=1∧il s=gz s∧im s=⟨#[]⟩∧fq s=true):=Dx hn;clear hn;go_enter func143,ntmps143;go_wp2_with fail;refine(lB s _ hs).mono ?_;rintro e w1 ⟨rfl,rfl⟩;rw[HN.out.1,HN.out.2];go_wp2_with fail;refine(Hl (gz s) _).mono ?_;rintro e w2 ⟨rfl,hb2⟩;obtain⟨hc,hf⟩:=ki hb2;go_wp2;exact bodyPost_ret (by simp[results,Tryz.results143,go_sem,hc];rfl) rfl ⟨by rw[HV.out.1,HV.out.2.1,HV.out.2.2.1,HV.out.2.2.2],(by repeat' first|(with_reducible first|exact Below.refl _ _|refine Below.drew ?_|refine ay ?_ _|refine bf ?_ _ ?_|refine aw ?_ (by assumption))|go_size)⟩
structure js (a:Option Addr) (cap:Nat) (L:af) (n:Nat):Prop where
 sum:∀(i:Int) (w:World),aD w a L→ka i→8*aB L i+1≤n→ah 84 #[.slice a L.length cap,.int .i64 i] w (aA (.int .i64 (aF L n 0 i)) w)
 deed:∀(i:Int) (f:Bool) (w:World),aD w a L→ka i→8*aB L i+1≤n→ah 47 #[.slice a L.length cap,.int .i64 i,.bool f] w (aA (.int .i64 (aF L n (if f then 1 else 2) i)) w)
 par:∀(i:Int) (w:World),aD w a L→ka i→8*aB L i+1≤n→ah 145 #[.slice a L.length cap,.int .i64 i] w (aA (.int .i64 (aF L n 3 i)) w)
 many:∀(q:Nat) (i:Int) (w:World),aD w a L→q≤3→-1≤i→i≤(L.length:Int)+1→8*aB L i+2≤n→ah 86 #[.slice a L.length cap,.int .i64 i,.int .i64 q] w (aA (.int .i64 (aF L n (4+q) i)) w)
 sums:∀(q:Nat) (i:Int) (w:World),aD w a L→q≤3→-1≤i→i≤(L.length:Int)+1→8*aB L i+2+q≤n→ah 87 #[.slice a L.length cap,.int .i64 i,.int .i64 q] w (aA (.int .i64 (aF L n (8+q) i)) w)
theorem Dg{L:af}{i x:Int}(h0:0≤i)(h1:i<(L.length:Int))(h:Fw L (i+2) x):-1≤x∧x≤(L.length:Int)+1∧aB L x+1≤aB L i:=by
 unfold Fw at h;unfold aB;rw[if_neg (show ¬i<0 by omega)];split<;>omega
section
variable {a:Option Addr} {cap:Nat} {L:af} {n:Nat} {i x:Int} {w0 w:World}
structure Pf (w0 w:World) (a:Option Addr) (L:af) (n:Nat) (i x:Int):Prop where
 A:aD w a L
 B:ai w0 w
 F:Fw L (i+2) x
 s:-1≤x∧x≤(L.length:Int)+1∧8*aB L x+8≤n
 h:0≤i∧i<(L.length:Int)∧L.length≤1048576∧8*aB L i≤n
theorem Pf.to(P:Pf w0 w a L n i x){w':World}{y:Int}(hb:ai w w')(F:Fw L (i+2) y):Pf w0 w' a L n i y :=
 ⟨P.A.call hb,aw P.B hb,F,by have:=Dg P.h.1 P.h.2.1 F;have:=P.h;omega,P.h⟩
theorem Ca(h:aD w a L)(h0:0≤i)(h1:i<(L.length:Int))(hL:L.length≤1048576)(hn:8*aB L i+1≤n+1)(hb:ai w0 w):Pf w0 w a L n i (i+2) :=
 ⟨h,hb,iW (by omega),by have:=Dg h0 h1 (iW (L:=L) (i:=i+2) (by omega));omega,h0,h1,hL,by omega⟩
theorem Pf.g(P:Pf w0 w a L n i x):ka x:=by have:=P.s;have:=P.h;exact⟨by omega,by omega⟩
theorem Pf.is(P:Pf w0 w a L n i x)(c:List UInt8)(hc:c≠[]) :
  ah 83 #[.slice a L.length cap,.int .i64 x,.string ⟨c.toArray⟩] w fun e w'=>e=.returned (.int .i64 (aK L x c))∧Pf w0 w' a L n i (aK L x c) :=
 (A6 a cap L x c w P.A P.h.2.2.1 P.g hc).mono fun _ _ h=>⟨h.1,P.to h.2 (fT hc P.F).I⟩
theorem Pf.name(P:Pf w0 w a L n i x) :
  ah 85 #[.slice a L.length cap,.int .i64 x] w fun e w'=>e=.returned (.int .i64 (aU L x))∧Pf w0 w' a L n i (aU L x) :=
 (sT a cap L x w P.A P.h.2.2.1 P.g).mono fun _ _ h=>⟨h.1,P.to h.2 (eD P.F).I⟩
theorem Pf.sum(P:Pf w0 w a L n i x)(IH:js a cap L n) :
  ah 84 #[.slice a L.length cap,.int .i64 x] w fun e w'=>e=.returned (.int .i64 (aF L n 0 x))∧Pf w0 w' a L n i (aF L n 0 x) :=
 (IH.sum x w P.A P.g (by have:=P.s;omega)).mono fun _ _ h=>⟨h.1,P.to h.2 ((gL L n).ends (by decide) P.F).I⟩
theorem Pf.deed(P:Pf w0 w a L n i x)(IH:js a cap L n) :
  ah 47 #[.slice a L.length cap,.int .i64 x,.bool false] w fun e w'=>e=.returned (.int .i64 (aF L n 2 x))∧Pf w0 w' a L n i (aF L n 2 x) :=
 (IH.deed x false w P.A P.g (by have:=P.s;omega)).mono fun _ _ h=>⟨h.1,P.to h.2 ((gL L n).ends (by decide) P.F).I⟩
theorem Pf.many(P:Pf w0 w a L n i x)(IH:js a cap L n)(q:Nat)(hq:q≤3) :
  ah 86 #[.slice a L.length cap,.int .i64 x,.int .i64 q] w fun e w'=>e=.returned (.int .i64 (aF L n (4+q) x))∧Pf w0 w' a L n i (aF L n (4+q) x) :=
 (IH.many q x w P.A hq P.s.1 P.s.2.1 (by have:=P.s;omega)).mono fun _ _ h=>⟨h.1,P.to h.2 ((gL L n).I (by omega) P.F)⟩
theorem Pf.sums(P:Pf w0 w a L n i x)(IH:js a cap L n)(q:Nat)(hq:q≤3) :
  ah 87 #[.slice a L.length cap,.int .i64 x,.int .i64 q] w fun e w'=>e=.returned (.int .i64 (aF L n (8+q) x))∧Pf w0 w' a L n i (aF L n (8+q) x) :=
 (IH.sums q x w P.A hq P.s.1 P.s.2.1 (by have:=P.s;omega)).mono fun _ _ h=>⟨h.1,P.to h.2 ((gL L n).I (by omega) P.F)⟩
theorem M3(hA:aD w a L)(hL:L.length≤1048576)(hi:ka i)(ho:ae (aa L i) [40]=false) :
  ah 84 #[.slice a L.length cap,.int .i64 i] w (aA (.int .i64 (aF L (n+1) 0 i)) w):=by
 have hm:=xa hA i;cases hv:fq (aa L i)
 ·cases hn:aV (aa L i)
  ·have HV:Hid (aF L (n+1) 0 i=-1):=MT ho (by show(fq (aa L i)||aV (aa L i))=false;rw[hv,hn];rfl);have HB:=aj hv;have HN:=aj hn;have b40:=aM ho;clear hv hn ho;go_enter func84,ntmps84;go_wp2_with fail;refine(fU a cap L i _ hA hL hi).mono ?_;rintro e w1 ⟨rfl,hb1⟩;generalize aa L i=t at hm HB HN b40;go_wp2_with fail;refine(xz t _ hm).mono ?_;rintro e w2 ⟨rfl,hb2⟩;rw[HB.out];go_wp2_with fail;refine(po t _ hm).mono ?_;rintro e w3 ⟨rfl,hb3⟩;rw[HN.out];go_wp2;go_ret;exact⟨by rw[HV.out];rfl,aw (ay (aw hb1 hb2) _) hb3⟩
  ·have HV:Hid (aF L (n+1) 0 i=i+1):=Dh ho (by show(fq (aa L i)||aV (aa L i))=true;rw[hv,hn];rfl);have hin:0≤i∧i<(L.length:Int):=by
    by_cases hin:0≤i∧i<(L.length:Int)
    ·exact hin
    ·rw[fZ hin]at hn;exact absurd hn (by decide +kernel)
   obtain⟨h0,h1⟩:=hin;have HB:=aj hv;have HN:=aj hn;have b40:=aM ho;clear hv hn ho;go_enter func84,ntmps84;go_wp2_with fail;refine(fU a cap L i _ hA hL hi).mono ?_;rintro e w1 ⟨rfl,hb1⟩;generalize aa L i=t at hm HB HN b40;go_wp2_with fail;refine(xz t _ hm).mono ?_;rintro e w2 ⟨rfl,hb2⟩;rw[HB.out];go_wp2_with fail;refine(po t _ hm).mono ?_;rintro e w3 ⟨rfl,hb3⟩;rw[HN.out];go_wp2;go_ret;exact⟨by rw[HV.out];rfl,aw (ay (aw hb1 hb2) _) hb3⟩
 ·have HV:Hid (aF L (n+1) 0 i=i+1):=Dh ho (by show(fq (aa L i)||aV (aa L i))=true;rw[hv];rfl);have hin:0≤i∧i<(L.length:Int):=by
   by_cases hin:0≤i∧i<(L.length:Int)
   ·exact hin
   ·rw[fZ hin]at hv;exact absurd hv (by decide +kernel)
  obtain⟨h0,h1⟩:=hin;have HB:=aj hv;have b40:=aM ho;clear hv ho;go_enter func84,ntmps84;go_wp2_with fail;refine(fU a cap L i _ hA hL hi).mono ?_;rintro e w1 ⟨rfl,hb1⟩;generalize aa L i=t at hm HB b40;go_wp2_with fail;refine(xz t _ hm).mono ?_;rintro e w2 ⟨rfl,hb2⟩;rw[HB.out];go_wp2;go_ret;exact⟨by rw[HV.out];rfl,ay (aw hb1 hb2) _⟩
theorem fh{s:ByteArray}{c:List UInt8}(h:s≠⟨c.toArray⟩):(s.toList==c)=false:=dx h
theorem M1(IH:js a cap L n)(hA:aD w a L)(hL:L.length≤1048576)(hi:ka i)(hn:8*aB L i+1≤n+1) :
  ah 84 #[.slice a L.length cap,.int .i64 i] w (aA (.int .i64 (aF L (n+1) 0 i)) w):=by
 cases ho:ae (aa L i) [40]
 ·exact M3 hA hL hi ho
 obtain⟨h0,h1⟩:=bF ho;have hV:aF L (n+1) 0 i=bR L (aF L n) i:=rfl;unfold bR at hV;rw[if_pos ho]at hV;have HV:=aj hV;have HO:Hid (aa L i=⟨#[40]⟩):=aZ ho;clear hV ho;generalize aF L (n+1) 0 i=o at HV ⊢;go_enter func84,ntmps84;go_wp2_with fail;refine(fU a cap L i _ hA hL hi).mono ?_;rintro e wa ⟨rfl,hba⟩;rw[HO.out];go_wp2_with fail;refine(fU a cap L (i+1) _ (hA.call hba) hL ⟨by omega,by omega⟩).mono ?_;rintro e wb ⟨rfl,hbb⟩;go_wp2_with fail;refine(A4 _).mono ?_;rintro e wc ⟨rfl,hT,hbc⟩;have P:Pf w wc a L n i (i+2):=Ca ((hA.call hba).call hbb |>.call hbc) h0 h1 hL hn (aw (aw hba hbb) hbc);generalize aa L (i+1)=s at HV ⊢;go_wp2_with fail;refine(qT _ 0 6 dV s _ hT (by decide)).mono ?_;rintro e w1 ⟨x,rfl,hx,rfl⟩;replace hx:0≤x↔kv s=true:=hx.trans (re _).symm;clear hT hba hbb hbc hA HO hi hn;cases hop:kv s;rotate_left
 ·have hx0:0≤x:=hx.mpr hop;have HP:=aj hop;clear hx hop;go_wp2_with fail;refine(P.sums IH 2 (by decide)).mono ?_;rintro e w1 ⟨rfl,P⟩;go_wp2_with fail;refine(P.is [41] (by decide)).mono ?_;rintro e w1 ⟨rfl,P⟩;go_wp2;go_ret;exact⟨by rw[HV.out,HP.out];rfl,P.B⟩
 have hx0:¬0≤x:=fun h=>by rw[hx.mp h]at hop;exact absurd hop (by decide)
 have HP:=aj hop;clear hx hop;by_cases hget:s=⟨#[103,101,116]⟩∨s=⟨#[116,103,101,116]⟩
 ·rcases hget with rfl|rfl
  all_goals
   go_wp2_with fail
   refine(P.sums IH 2 (by decide)).mono ?_
   rintro e w1 ⟨rfl,P⟩
   go_wp2_with fail
   refine(P.is [41] (by decide)).mono ?_
   rintro e w1 ⟨rfl,P⟩
   go_wp2
   go_ret
   exact⟨by rw[HV.out,HP.out];simp only[aS];rfl,P.B⟩
 by_cases hfn:s=⟨#[102,110]⟩
 ·subst hfn;go_wp2_with fail;refine(P.is [40] (by decide)).mono ?_;rintro e w1 ⟨rfl,P⟩;go_wp2_with fail;refine(P.many IH 3 (by decide)).mono ?_;rintro e w1 ⟨rfl,P⟩;go_wp2_with fail;refine(P.is [41] (by decide)).mono ?_;rintro e w1 ⟨rfl,P⟩;go_wp2_with fail;refine(P.many IH 2 (by decide)).mono ?_;rintro e w1 ⟨rfl,P⟩;go_wp2_with fail;refine(P.is [41] (by decide)).mono ?_;rintro e w1 ⟨rfl,P⟩;go_wp2;go_ret;exact⟨by rw[HV.out,HP.out];simp only[aS];rfl,P.B⟩
 by_cases hcall:s=⟨#[99,97,108,108]⟩
 ·subst hcall;go_wp2_with fail;refine(P.sum IH).mono ?_;rintro e w1 ⟨rfl,P⟩;go_wp2_with fail;refine(P.many IH 0 (by decide)).mono ?_;rintro e w1 ⟨rfl,P⟩;go_wp2_with fail;refine(P.is [41] (by decide)).mono ?_;rintro e w1 ⟨rfl,P⟩;go_wp2;go_ret;exact⟨by rw[HV.out,HP.out];simp only[aS];rfl,P.B⟩
 by_cases hthing:s=⟨#[116,104,105,110,103]⟩∨s=⟨#[106,111,105,110]⟩
 ·rcases hthing with rfl|rfl
  all_goals
   go_wp2_with fail
   refine(P.many IH 0 (by decide)).mono ?_
   rintro e w1 ⟨rfl,P⟩
   go_wp2_with fail
   refine(P.is [41] (by decide)).mono ?_
   rintro e w1 ⟨rfl,P⟩
   go_wp2
   go_ret
   exact⟨by rw[HV.out,HP.out];simp only[aS];rfl,P.B⟩
 by_cases htable:s=⟨#[116,97,98,108,101]⟩
 ·subst htable;go_wp2_with fail;refine(P.is [41] (by decide)).mono ?_;rintro e w1 ⟨rfl,P⟩;go_wp2;go_ret;exact⟨by rw[HV.out,HP.out];simp only[aS];rfl,P.B⟩
 by_cases hhget:s=⟨#[104,103,101,116]⟩
 ·subst hhget;go_wp2_with fail;refine(P.name).mono ?_;rintro e w1 ⟨rfl,P⟩;go_wp2_with fail;refine(P.sum IH).mono ?_;rintro e w1 ⟨rfl,P⟩;go_wp2_with fail;refine(P.is [41] (by decide)).mono ?_;rintro e w1 ⟨rfl,P⟩;go_wp2;go_ret;exact⟨by rw[HV.out,HP.out];simp only[aS];rfl,P.B⟩
 have qget:=fh (not_or.mp hget).1;have qtget:=fh (not_or.mp hget).2;have qfn:=fh hfn;have qcall:=fh hcall;have qthing:=fh (not_or.mp hthing).1;have qjoin:=fh (not_or.mp hthing).2;have qtable:=fh htable;have qhget:=fh hhget;go_wp2;go_ret;exact⟨by rw[HV.out,HP.out];simp only[ae,qget,qtget,qfn,qcall,qthing,qjoin,qtable,qhget];rfl,P.B⟩
end
section
variable {a:Option Addr} {cap:Nat} {L:af} {n:Nat} {i:Int} {w:World}
theorem FR(f:Bool):aF L (n+1) (if f then 1 else 2) i=dB L (aF L n) f i:=by cases f<;>rfl
theorem EN(f:Bool)(IH:js a cap L n)(hA:aD w a L)(hL:L.length≤1048576)(hi:ka i)(hn:8*aB L i+1≤n+1) :
  ah 47 #[.slice a L.length cap,.int .i64 i,.bool f] w (aA (.int .i64 (aF L (n+1) (if f then 1 else 2) i)) w):=by
 have hV:=FR (L:=L) (n:=n) (i:=i) f;unfold dB at hV;cases ho:ae (aa L i) [40]
 ·rw[hV,ho];have b40:=aM ho;clear ho hV;go_enter func47,ntmps47;go_wp2_with fail;refine(fU a cap L i _ hA hL hi).mono ?_;rintro e w1 ⟨rfl,hb1⟩;generalize aa L i=t at b40;go_wp2;go_ret;exact⟨rfl,hb1⟩
 obtain⟨h0,h1⟩:=bF ho;rw[if_pos ho]at hV;have HV:=aj hV;have HO:Hid (aa L i=⟨#[40]⟩):=aZ ho;clear hV ho;generalize aF L (n+1) (if f then 1 else 2) i=o at HV ⊢;go_enter func47,ntmps47;go_wp2_with fail;refine(fU a cap L i _ hA hL hi).mono ?_;rintro e wa ⟨rfl,hba⟩;rw[HO.out];go_wp2_with fail;refine(fU a cap L (i+1) _ (hA.call hba) hL ⟨by omega,by omega⟩).mono ?_;rintro e wb ⟨rfl,hbb⟩;have P:Pf w wb a L n i (i+2):=Ca ((hA.call hba).call hbb) h0 h1 hL hn (aw hba hbb);generalize aa L (i+1)=s at HV ⊢;clear hba hbb hA HO hi hn;by_cases hlet:s=⟨#[108,101,116]⟩
 ·subst hlet;cases f
  ·go_wp2;go_ret;exact⟨by rw[HV.out];simp only[bS,bp,aS];rfl,P.B⟩
  go_wp2_with fail;refine(P.name).mono ?_;rintro e w1 ⟨rfl,P⟩;go_wp2_with fail;refine(P.sum IH).mono ?_;rintro e w1 ⟨rfl,P⟩;go_wp2_with fail;refine(P.is [41] (by decide)).mono ?_;rintro e w1 ⟨rfl,P⟩;go_wp2;go_ret;exact⟨by rw[HV.out];simp only[bS,bp,aS];rfl,P.B⟩
 by_cases hset:s=⟨#[115,101,116]⟩
 ·subst hset;go_wp2_with fail;refine(P.name).mono ?_;rintro e w1 ⟨rfl,P⟩;go_wp2_with fail;refine(P.sum IH).mono ?_;rintro e w1 ⟨rfl,P⟩;go_wp2_with fail;refine(P.is [41] (by decide)).mono ?_;rintro e w1 ⟨rfl,P⟩;go_wp2;go_ret;exact⟨by rw[HV.out];simp only[bS,bp,aS];rfl,P.B⟩
 by_cases htake:s=⟨#[116,97,107,101]⟩
 ·subst htake;cases f
  ·go_wp2;go_ret;exact⟨by rw[HV.out];simp only[bS,bp,aS];rfl,P.B⟩
  go_wp2_with fail;refine(P.is [40] (by decide)).mono ?_;rintro e w1 ⟨rfl,P⟩;go_wp2_with fail;refine(P.name).mono ?_;rintro e w1 ⟨rfl,P⟩;go_wp2_with fail;refine(P.many IH 1 (by decide)).mono ?_;rintro e w1 ⟨rfl,P⟩;go_wp2_with fail;refine(P.is [41] (by decide)).mono ?_;rintro e w1 ⟨rfl,P⟩;go_wp2_with fail;refine(P.sum IH).mono ?_;rintro e w1 ⟨rfl,P⟩;go_wp2_with fail;refine(P.is [41] (by decide)).mono ?_;rintro e w1 ⟨rfl,P⟩;go_wp2;go_ret;exact⟨by rw[HV.out];simp only[bS,bp,aS];rfl,P.B⟩
 by_cases hhidden:s=⟨#[104,105,100,100,101,110]⟩∨s=⟨#[118,97,114,115]⟩
 ·rcases hhidden with rfl|rfl
  all_goals
   cases f
   ·go_wp2;go_ret;exact⟨by rw[HV.out];simp only[bS,bp,aS];rfl,P.B⟩
   go_wp2_with fail
   refine(P.many IH 1 (by decide)).mono ?_
   rintro e w1 ⟨rfl,P⟩
   go_wp2_with fail
   refine(P.is [41] (by decide)).mono ?_
   rintro e w1 ⟨rfl,P⟩
   go_wp2
   go_ret
   exact⟨by rw[HV.out];simp only[bS,bp,aS];rfl,P.B⟩
 by_cases hdo:s=⟨#[100,111]⟩
 ·subst hdo;go_wp2_with fail;refine(P.many IH 2 (by decide)).mono ?_;rintro e w1 ⟨rfl,P⟩;go_wp2_with fail;refine(P.is [41] (by decide)).mono ?_;rintro e w1 ⟨rfl,P⟩;go_wp2;go_ret;exact⟨by rw[HV.out];simp only[bS,bp,aS];rfl,P.B⟩
 by_cases hif:s=⟨#[105,102]⟩
 ·subst hif;go_wp2_with fail;refine(P.sum IH).mono ?_;rintro e w1 ⟨rfl,P⟩;go_wp2_with fail;refine(P.deed IH).mono ?_;rintro e w1 ⟨rfl,P⟩;go_wp2_with fail;refine(P.deed IH).mono ?_;rintro e w1 ⟨rfl,P⟩;go_wp2_with fail;refine(P.is [41] (by decide)).mono ?_;rintro e w1 ⟨rfl,P⟩;go_wp2;go_ret;exact⟨by rw[HV.out];simp only[bS,bp,aS];rfl,P.B⟩
 by_cases hwhile:s=⟨#[119,104,105,108,101]⟩
 ·subst hwhile;go_wp2_with fail;refine(P.sum IH).mono ?_;rintro e w1 ⟨rfl,P⟩;go_wp2_with fail;refine(P.deed IH).mono ?_;rintro e w1 ⟨rfl,P⟩;go_wp2_with fail;refine(P.is [41] (by decide)).mono ?_;rintro e w1 ⟨rfl,P⟩;go_wp2;go_ret;exact⟨by rw[HV.out];simp only[bS,bp,aS];rfl,P.B⟩
 by_cases hfor:s=⟨#[102,111,114]⟩
 ·subst hfor;go_wp2_with fail;refine(P.name).mono ?_;rintro e w1 ⟨rfl,P⟩;go_wp2_with fail;refine(P.sums IH 2 (by decide)).mono ?_;rintro e w1 ⟨rfl,P⟩;go_wp2_with fail;refine(P.deed IH).mono ?_;rintro e w1 ⟨rfl,P⟩;go_wp2_with fail;refine(P.is [41] (by decide)).mono ?_;rintro e w1 ⟨rfl,P⟩;go_wp2;go_ret;exact⟨by rw[HV.out];simp only[bS,bp,aS];rfl,P.B⟩
 by_cases hsay:s=⟨#[115,97,121]⟩∨s=⟨#[98,97,99,107]⟩∨s=⟨#[114,117,110]⟩
 ·rcases hsay with rfl|rfl|rfl
  all_goals
   go_wp2_with fail
   refine(P.sum IH).mono ?_
   rintro e w1 ⟨rfl,P⟩
   go_wp2_with fail
   refine(P.is [41] (by decide)).mono ?_
   rintro e w1 ⟨rfl,P⟩
   go_wp2
   go_ret
   exact⟨by rw[HV.out];simp only[bS,bp,aS];rfl,P.B⟩
 by_cases hleave:s=⟨#[108,101,97,118,101]⟩∨s=⟨#[110,101,120,116]⟩
 ·rcases hleave with rfl|rfl
  all_goals
   go_wp2_with fail
   refine(P.is [41] (by decide)).mono ?_
   rintro e w1 ⟨rfl,P⟩
   go_wp2
   go_ret
   exact⟨by rw[HV.out];simp only[bS,bp,aS];rfl,P.B⟩
 by_cases hput:s=⟨#[112,117,116]⟩∨s=⟨#[116,112,117,116]⟩
 ·rcases hput with rfl|rfl
  all_goals
   go_wp2_with fail
   refine(P.sums IH 3 (by decide)).mono ?_
   rintro e w1 ⟨rfl,P⟩
   go_wp2_with fail
   refine(P.is [41] (by decide)).mono ?_
   rintro e w1 ⟨rfl,P⟩
   go_wp2
   go_ret
   exact⟨by rw[HV.out];simp only[bS,bp,aS];rfl,P.B⟩
 by_cases hhput:s=⟨#[104,112,117,116]⟩
 ·subst hhput;go_wp2_with fail;refine(P.name).mono ?_;rintro e w1 ⟨rfl,P⟩;go_wp2_with fail;refine(P.sums IH 2 (by decide)).mono ?_;rintro e w1 ⟨rfl,P⟩;go_wp2_with fail;refine(P.is [41] (by decide)).mono ?_;rintro e w1 ⟨rfl,P⟩;go_wp2;go_ret;exact⟨by rw[HV.out];simp only[bS,bp,aS];rfl,P.B⟩
 have qlet:=fh hlet;have qset:=fh hset;have qtake:=fh htake;have qhidden:=fh (not_or.mp hhidden).1;have qvars:=fh (not_or.mp hhidden).2;have qdo:=fh hdo;have qif:=fh hif;have qwhile:=fh hwhile;have qfor:=fh hfor;have qsay:=fh (not_or.mp hsay).1;have qback:=fh (not_or.mp (not_or.mp hsay).2).1;have qrun:=fh (not_or.mp (not_or.mp hsay).2).2;have qleave:=fh (not_or.mp hleave).1;have qnext:=fh (not_or.mp hleave).2;have qput:=fh (not_or.mp hput).1;have qtput:=fh (not_or.mp hput).2;have qhput:=fh hhput;go_wp2;go_ret;exact⟨by rw[HV.out];simp only[bS,bp,ae,qlet,qset,qtake,qhidden,qvars,qdo,qif,qwhile,qfor,qsay,qback,qrun,qleave,qnext,qput,qtput,qhput];rfl,P.B⟩
end
section
variable {a:Option Addr} {cap:Nat} {L:af} {n:Nat} {i:Int} {w:World}
theorem z8{q:Nat}(hq:q≤3):aF L (n+1) (4+q) i=eC L (aF L n) q i:=by
 obtain rfl|rfl|rfl|rfl:q=0∨q=1∨q=2∨q=3:=by omega
 all_goals rfl
theorem uZ{q:Nat}:aF L (n+1) (8+q) i=oC (aF L n) q i:=by
 unfold aF;rw[if_neg (by omega),if_neg (by omega),if_neg (by omega),if_neg (by omega),if_neg (by omega),show 8+q-8=q by omega]
theorem gm(h0:0≤i)(h1:i≤(L.length:Int)+1):1≤aB L i:=by
 unfold aB;rw[if_neg (by omega)];omega
theorem Kt(IH:js a cap L n)(hA:aD w a L)(hL:L.length≤1048576)(hi:ka i)(hn:8*aB L i+1≤n+1) :
  ah 145 #[.slice a L.length cap,.int .i64 i] w (aA (.int .i64 (aF L (n+1) 3 i)) w):=by
 have HV:Hid (aF L (n+1) 3 i=eG L (aF L n) i):=(rfl:aF L (n+1) 3 i=eG L (aF L n) i);cases ho:ae (aa L i) [40]
 ·have HP:=aj (by unfold eG;rw[ho];rfl:eG L (aF L n) i=aU L i);have b40:=aM ho;clear ho;go_enter func145,ntmps145;go_wp2_with fail;refine(fU a cap L i _ hA hL hi).mono ?_;rintro e w1 ⟨rfl,hb1⟩;have hA1:=hA.call hb1;generalize aa L i=t at b40;go_wp2_with fail;refine(sT a cap L i _ hA1 hL hi).mono ?_;rintro e w2 ⟨rfl,hb2⟩;go_wp2;go_ret;exact⟨by rw[HV.out,HP.out];rfl,aw hb1 hb2⟩
 ·obtain⟨h0,h1⟩:=bF ho;have HP:=aj (by unfold eG;rw[ho];rfl:eG L (aF L n) i=aK L (aF L n 0 (aU L (i+1))) [41]);have HO:Hid (aa L i=⟨#[40]⟩):=aZ ho;have hr:=gL L n;have E1:Ends L (i+1) (aU L (i+1)):=eD (iW (by omega));have E2:Ends L (i+1) (aF L n 0 (aU L (i+1))):=hr.ends (by decide) E1.I;have s1:-1≤aU L (i+1)∧aU L (i+1)≤(L.length:Int)+1∧aB L (aU L (i+1))+1≤aB L i:=by
   have hp:=gm (L:=L) h0 (by omega);rcases gV E1 (by omega)with hf|⟨hf,hz⟩
   ·have:aB L (i+1)≤aB L i:=by unfold aB;rw[if_neg (by omega),if_neg (by omega)];omega
    unfold Ends at E1;omega
   ·unfold Ends at E1;omega
  have s2:-1≤aF L n 0 (aU L (i+1))∧aF L n 0 (aU L (i+1))≤(L.length:Int)+1:=by unfold Ends at E2;omega
  clear ho E1 E2 hr;go_enter func145,ntmps145;go_wp2_with fail;refine(fU a cap L i _ hA hL hi).mono ?_;rintro e w1 ⟨rfl,hb1⟩;rw[HO.out];have hA1:=hA.call hb1;go_wp2_with fail;refine(sT a cap L (i+1) _ hA1 hL ⟨by omega,by omega⟩).mono ?_;rintro e w2 ⟨rfl,hb2⟩;have hA2:=hA1.call hb2;have hB2:=aw hb1 hb2;go_wp2_with fail;refine(IH.sum _ _ hA2 ⟨by omega,by omega⟩ (by omega)).mono ?_;rintro e w3 ⟨rfl,hb3⟩;have hA3:=hA2.call hb3;have hB3:=aw hB2 hb3;go_wp2_with fail;refine(A6 a cap L _ [41] _ hA3 hL ⟨by omega,by omega⟩ (by decide)).mono ?_;rintro e w4 ⟨rfl,hb4⟩;go_wp2;go_ret;exact⟨by rw[HV.out,HP.out];rfl,aw hB3 hb4⟩
theorem M9(q:Nat)(IH:∀m,m≤n→js a cap L m)(hA:aD w a L)(hq:q≤3)(h0:-1≤i)(h1:i≤(L.length:Int)+1)(hL:L.length≤1048576)(hn:8*aB L i+2+q≤n+1) :
  ah 87 #[.slice a L.length cap,.int .i64 i,.int .i64 q] w (aA (.int .i64 (aF L (n+1) (8+q) i)) w):=by
 go_enter func87,ntmps87;go_wp2;go_loopw [1,2] (fun v1 v2 wr=>∃(m k:Nat) (x:Int),v1=.int .i64 x∧v2=.int .i64 (k:Int)∧m≤n∧k≤3∧-1≤x∧x≤(L.length:Int)+1∧8*aB L x+2+k≤m+1∧Hid (aF L (m+1) (8+k) x=aF L (n+1) (8+q) i)∧ai w wr) (fun _ v2 _=>(intOf v2).toNat)
 case atStart=>exact⟨n,q,i,rfl,rfl,Nat.le_refl _,hq,h0,h1,hn,rfl,Below.refl _ _⟩
 case round =>
  obtain⟨m,k,x,rfl,rfl,hm,hk,hx0,hx1,hf,HT,hB⟩:=hrel;cases k with
  |zero =>
   have HE:=aj (by rw[←HT.out,uZ];rfl:aF L (n+1) (8+q) i=x);clear HT;go_wp2;go_ret;exact⟨by rw[HE.out];rfl,hB⟩
  |succ j =>
   by_cases hneg:x<0
   ·have HE:=aj (by rw[←HT.out,uZ];show(if x<0 then x else _)=x;rw[if_pos hneg]:aF L (n+1) (8+q) i=x);clear HT;go_wp2;go_ret;exact⟨by rw[HE.out];rfl,hB⟩
   ·have HE:=aj (by rw[←HT.out,uZ];show _=(if x<0 then x else _);rw[if_neg hneg]:aF L m (8+j) (aF L m 0 x)=aF L (n+1) (8+q) i);have hE:=(gL L m).1 0 x (by decide);have hfe:=gV hE hx1;have hp:=gm (L:=L) (i:=x) (by omega) hx1;have hA':=hA.call hB;clear HT;go_wp2_with fail;refine((IH m hm).sum x _ hA' ⟨by omega,by omega⟩ (by omega)).mono ?_;rintro e w1 ⟨rfl,hb1⟩;have hB1:=aw hB hb1;generalize aF L m 0 x=y at HE hE hfe;unfold Ends at hE;cases m with
    |zero=>omega
    |succ m' =>
     go_wp2;go_roundw
     case rel=>exact⟨m',j,y,rfl,by go_num,by omega,by omega,by omega,by omega,by omega,HE.out,hB1⟩
     case measure=>simp[intOf]
theorem mM{q:Nat}(hq:q≤3)(h:i<0∨ae (aa L i) [41]=true):aF L (n+1) (4+q) i=i:=by
 rw[z8 hq];unfold eC;rw[if_pos h]
theorem ta{q:Nat}(hq:q≤3)(h:¬(i<0∨ae (aa L i) [41]=true)):aF L (n+1) (4+q) i=aF L n (4+q) (fX L (aF L n) q i):=by
 rw[z8 hq];unfold eC;rw[if_neg h]
theorem IQ(IH:∀m,m≤n→js a cap L m)(hA:aD w a L)(h0:-1≤i)(h1:i≤(L.length:Int)+1)(hL:L.length≤1048576)(hn:8*aB L i+2≤n+1) :
  ah 86 #[.slice a L.length cap,.int .i64 i,.int .i64 0] w (aA (.int .i64 (aF L (n+1) (4+0) i)) w):=by
 go_enter func86,ntmps86;go_wp2;go_loopw [1] (fun v1 wr=>∃(m:Nat) (x:Int),v1=.int .i64 x∧m≤n∧-1≤x∧x≤(L.length:Int)+1∧8*aB L x+2≤m+1∧Hid (aF L (m+1) (4+0) x=aF L (n+1) (4+0) i)∧ai w wr) (fun v1 _=>aB L (intOf v1))
 case atStart=>exact⟨n,i,rfl,Nat.le_refl _,h0,h1,hn,rfl,Below.refl _ _⟩
 case round =>
  obtain⟨m,x,rfl,hm,hx0,hx1,hf,HT,hB⟩:=hrel;by_cases hneg:x<0
  ·have HE:Hid (aF L (n+1) (4+0) i=x):=(HT.out.symm.trans (mM (by decide) (Or.inl hneg)):aF L (n+1) (4+0) i=x);clear HT;go_wp2;go_ret;exact⟨by rw[HE.out];rfl,hB⟩
  have hA':=hA.call hB;cases hw:ae (aa L x) [41]
  ·have HE:Hid (aF L m (4+0) (aF L m 0 x)=aF L (n+1) (4+0) i):=((HT.out.symm.trans (ta (by decide) (by rw[hw];simp;omega))).symm:aF L m (4+0) (aF L m 0 x)=aF L (n+1) (4+0) i);have hE:Ends L x (aF L m 0 x):=mR (gL L m) 0 hx0;have hfe:=gV hE hx1;have hp:=gm (L:=L) (i:=x) (by omega) hx1;have b41:=aM hw;clear HT hw;go_wp2_with fail;refine(fU a cap L x _ hA' hL ⟨by omega,by omega⟩).mono ?_;rintro e w1 ⟨rfl,hb1⟩;have hA2:=hA'.call hb1;have hB1:=aw hB hb1;generalize aa L x=t at b41;go_wp2_with fail;refine((IH m hm).sum x _ hA2 ⟨by omega,by omega⟩ (by omega)).mono ?_;rintro e w2 ⟨rfl,hb2⟩;have hB2:=aw hB1 hb2;generalize aF L m 0 x=y at HE hE hfe;unfold Ends at hE;cases m with
   |zero=>omega
   |succ m' =>
    go_wp2;go_roundw
    case rel=>exact⟨m',y,rfl,by omega,by omega,by omega,by omega,HE.out,hB2⟩
    case measure=>simp[intOf];omega
  ·have HE:Hid (aF L (n+1) (4+0) i=x):=(HT.out.symm.trans (mM (by decide) (Or.inr hw)):aF L (n+1) (4+0) i=x);have HW:Hid (aa L x=⟨#[41]⟩):=aZ hw;clear HT hw;go_wp2_with fail;refine(fU a cap L x _ hA' hL ⟨by omega,by omega⟩).mono ?_;rintro e w1 ⟨rfl,hb1⟩;rw[HW.out];go_wp2;go_ret;exact⟨by rw[HE.out];rfl,aw hB hb1⟩
theorem IS(_IH:∀m,m≤n→js a cap L m)(hA:aD w a L)(h0:-1≤i)(h1:i≤(L.length:Int)+1)(hL:L.length≤1048576)(hn:8*aB L i+2≤n+1) :
  ah 86 #[.slice a L.length cap,.int .i64 i,.int .i64 1] w (aA (.int .i64 (aF L (n+1) (4+1) i)) w):=by
 go_enter func86,ntmps86;go_wp2;go_loopw [1] (fun v1 wr=>∃(m:Nat) (x:Int),v1=.int .i64 x∧m≤n∧-1≤x∧x≤(L.length:Int)+1∧8*aB L x+2≤m+1∧Hid (aF L (m+1) (4+1) x=aF L (n+1) (4+1) i)∧ai w wr) (fun v1 _=>aB L (intOf v1))
 case atStart=>exact⟨n,i,rfl,Nat.le_refl _,h0,h1,hn,rfl,Below.refl _ _⟩
 case round =>
  obtain⟨m,x,rfl,hm,hx0,hx1,hf,HT,hB⟩:=hrel;by_cases hneg:x<0
  ·have HE:Hid (aF L (n+1) (4+1) i=x):=(HT.out.symm.trans (mM (by decide) (Or.inl hneg)):aF L (n+1) (4+1) i=x);clear HT;go_wp2;go_ret;exact⟨by rw[HE.out];rfl,hB⟩
  have hA':=hA.call hB;cases hw:ae (aa L x) [41]
  ·have HE:Hid (aF L m (4+1) (aU L x)=aF L (n+1) (4+1) i):=((HT.out.symm.trans (ta (by decide) (by rw[hw];simp;omega))).symm:aF L m (4+1) (aU L x)=aF L (n+1) (4+1) i);have hE:Ends L x (aU L x):=mR (gL L m) 1 hx0;have hfe:=gV hE hx1;have hp:=gm (L:=L) (i:=x) (by omega) hx1;have b41:=aM hw;clear HT hw;go_wp2_with fail;refine(fU a cap L x _ hA' hL ⟨by omega,by omega⟩).mono ?_;rintro e w1 ⟨rfl,hb1⟩;have hA2:=hA'.call hb1;have hB1:=aw hB hb1;generalize aa L x=t at b41;go_wp2_with fail;refine(sT a cap L x _ hA2 hL ⟨by omega,by omega⟩).mono ?_;rintro e w2 ⟨rfl,hb2⟩;have hB2:=aw hB1 hb2;generalize aU L x=y at HE hE hfe;unfold Ends at hE;cases m with
   |zero=>omega
   |succ m' =>
    go_wp2;go_roundw
    case rel=>exact⟨m',y,rfl,by omega,by omega,by omega,by omega,HE.out,hB2⟩
    case measure=>simp[intOf];omega
  ·have HE:Hid (aF L (n+1) (4+1) i=x):=(HT.out.symm.trans (mM (by decide) (Or.inr hw)):aF L (n+1) (4+1) i=x);have HW:Hid (aa L x=⟨#[41]⟩):=aZ hw;clear HT hw;go_wp2_with fail;refine(fU a cap L x _ hA' hL ⟨by omega,by omega⟩).mono ?_;rintro e w1 ⟨rfl,hb1⟩;rw[HW.out];go_wp2;go_ret;exact⟨by rw[HE.out];rfl,aw hB hb1⟩
theorem IT(IH:∀m,m≤n→js a cap L m)(hA:aD w a L)(h0:-1≤i)(h1:i≤(L.length:Int)+1)(hL:L.length≤1048576)(hn:8*aB L i+2≤n+1) :
  ah 86 #[.slice a L.length cap,.int .i64 i,.int .i64 2] w (aA (.int .i64 (aF L (n+1) (4+2) i)) w):=by
 go_enter func86,ntmps86;go_wp2;go_loopw [1] (fun v1 wr=>∃(m:Nat) (x:Int),v1=.int .i64 x∧m≤n∧-1≤x∧x≤(L.length:Int)+1∧8*aB L x+2≤m+1∧Hid (aF L (m+1) (4+2) x=aF L (n+1) (4+2) i)∧ai w wr) (fun v1 _=>aB L (intOf v1))
 case atStart=>exact⟨n,i,rfl,Nat.le_refl _,h0,h1,hn,rfl,Below.refl _ _⟩
 case round =>
  obtain⟨m,x,rfl,hm,hx0,hx1,hf,HT,hB⟩:=hrel;by_cases hneg:x<0
  ·have HE:Hid (aF L (n+1) (4+2) i=x):=(HT.out.symm.trans (mM (by decide) (Or.inl hneg)):aF L (n+1) (4+2) i=x);clear HT;go_wp2;go_ret;exact⟨by rw[HE.out];rfl,hB⟩
  have hA':=hA.call hB;cases hw:ae (aa L x) [41]
  ·have HE:Hid (aF L m (4+2) (aF L m 1 x)=aF L (n+1) (4+2) i):=((HT.out.symm.trans (ta (by decide) (by rw[hw];simp;omega))).symm:aF L m (4+2) (aF L m 1 x)=aF L (n+1) (4+2) i);have hE:Ends L x (aF L m 1 x):=mR (gL L m) 2 hx0;have hfe:=gV hE hx1;have hp:=gm (L:=L) (i:=x) (by omega) hx1;have b41:=aM hw;clear HT hw;go_wp2_with fail;refine(fU a cap L x _ hA' hL ⟨by omega,by omega⟩).mono ?_;rintro e w1 ⟨rfl,hb1⟩;have hA2:=hA'.call hb1;have hB1:=aw hB hb1;generalize aa L x=t at b41;go_wp2_with fail;refine((IH m hm).deed x true _ hA2 ⟨by omega,by omega⟩ (by omega)).mono ?_;rintro e w2 ⟨rfl,hb2⟩;have hB2:=aw hB1 hb2;rw[show(if true=true then 1 else 2)=1 from rfl];generalize aF L m 1 x=y at HE hE hfe;unfold Ends at hE;cases m with
   |zero=>omega
   |succ m' =>
    go_wp2;go_roundw
    case rel=>exact⟨m',y,rfl,by omega,by omega,by omega,by omega,HE.out,hB2⟩
    case measure=>simp[intOf];omega
  ·have HE:Hid (aF L (n+1) (4+2) i=x):=(HT.out.symm.trans (mM (by decide) (Or.inr hw)):aF L (n+1) (4+2) i=x);have HW:Hid (aa L x=⟨#[41]⟩):=aZ hw;clear HT hw;go_wp2_with fail;refine(fU a cap L x _ hA' hL ⟨by omega,by omega⟩).mono ?_;rintro e w1 ⟨rfl,hb1⟩;rw[HW.out];go_wp2;go_ret;exact⟨by rw[HE.out];rfl,aw hB hb1⟩
theorem IU(IH:∀m,m≤n→js a cap L m)(hA:aD w a L)(h0:-1≤i)(h1:i≤(L.length:Int)+1)(hL:L.length≤1048576)(hn:8*aB L i+2≤n+1) :
  ah 86 #[.slice a L.length cap,.int .i64 i,.int .i64 3] w (aA (.int .i64 (aF L (n+1) (4+3) i)) w):=by
 go_enter func86,ntmps86;go_wp2;go_loopw [1] (fun v1 wr=>∃(m:Nat) (x:Int),v1=.int .i64 x∧m≤n∧-1≤x∧x≤(L.length:Int)+1∧8*aB L x+2≤m+1∧Hid (aF L (m+1) (4+3) x=aF L (n+1) (4+3) i)∧ai w wr) (fun v1 _=>aB L (intOf v1))
 case atStart=>exact⟨n,i,rfl,Nat.le_refl _,h0,h1,hn,rfl,Below.refl _ _⟩
 case round =>
  obtain⟨m,x,rfl,hm,hx0,hx1,hf,HT,hB⟩:=hrel;by_cases hneg:x<0
  ·have HE:Hid (aF L (n+1) (4+3) i=x):=(HT.out.symm.trans (mM (by decide) (Or.inl hneg)):aF L (n+1) (4+3) i=x);clear HT;go_wp2;go_ret;exact⟨by rw[HE.out];rfl,hB⟩
  have hA':=hA.call hB;cases hw:ae (aa L x) [41]
  ·have HE:Hid (aF L m (4+3) (aF L m 3 x)=aF L (n+1) (4+3) i):=((HT.out.symm.trans (ta (by decide) (by rw[hw];simp;omega))).symm:aF L m (4+3) (aF L m 3 x)=aF L (n+1) (4+3) i);have hE:Ends L x (aF L m 3 x):=mR (gL L m) 3 hx0;have hfe:=gV hE hx1;have hp:=gm (L:=L) (i:=x) (by omega) hx1;have b41:=aM hw;clear HT hw;go_wp2_with fail;refine(fU a cap L x _ hA' hL ⟨by omega,by omega⟩).mono ?_;rintro e w1 ⟨rfl,hb1⟩;have hA2:=hA'.call hb1;have hB1:=aw hB hb1;generalize aa L x=t at b41;go_wp2_with fail;refine((IH m hm).par x _ hA2 ⟨by omega,by omega⟩ (by omega)).mono ?_;rintro e w2 ⟨rfl,hb2⟩;have hB2:=aw hB1 hb2;generalize aF L m 3 x=y at HE hE hfe;unfold Ends at hE;cases m with
   |zero=>omega
   |succ m' =>
    go_wp2;go_roundw
    case rel=>exact⟨m',y,rfl,by omega,by omega,by omega,by omega,HE.out,hB2⟩
    case measure=>simp[intOf];omega
  ·have HE:Hid (aF L (n+1) (4+3) i=x):=(HT.out.symm.trans (mM (by decide) (Or.inr hw)):aF L (n+1) (4+3) i=x);have HW:Hid (aa L x=⟨#[41]⟩):=aZ hw;clear HT hw;go_wp2_with fail;refine(fU a cap L x _ hA' hL ⟨by omega,by omega⟩).mono ?_;rintro e w1 ⟨rfl,hb1⟩;rw[HW.out];go_wp2;go_ret;exact⟨by rw[HE.out];rfl,aw hB hb1⟩
end
theorem FF(a:Option Addr)(cap:Nat)(L:af)(hL:L.length≤1048576)(n:Nat):js a cap L n:=by
 induction n using Nat.strongRecOn with
 |ind n ih =>
  cases n with
  |zero=>exact⟨fun i w _ _ h=>by omega,fun i f w _ _ h=>by omega,fun i w _ _ h=>by omega,fun q i w _ _ _ _ h=>by omega,fun q i w _ _ _ _ h=>by omega⟩
  |succ n =>
   have IH:∀m,m≤n→js a cap L m:=fun m hm=>ih m (by omega)
   refine⟨fun i w hA hi hn=>M1 (IH n (Nat.le_refl _)) hA hL hi hn,fun i f w hA hi hn=>EN f (IH n (Nat.le_refl _)) hA hL hi hn,fun i w hA hi hn=>Kt (IH n (Nat.le_refl _)) hA hL hi hn,fun q i w hA hq h0 h1 hn=>?_,fun q i w hA hq h0 h1 hn=>M9 q IH hA hq h0 h1 hL hn⟩;obtain rfl|rfl|rfl|rfl:q=0∨q=1∨q=2∨q=3:=by omega
   ·exact IQ IH hA h0 h1 hL hn
   ·exact IS IH hA h0 h1 hL hn
   ·exact IT IH hA h0 h1 hL hn
   ·exact IU IH hA h0 h1 hL hn
theorem qO(L:af):∀f i o,cU L f i o=-1∨((i:Int)<cU L f i o∧cU L f i o≤(L.length:Int))
 |0,_,_=>Or.inl rfl
 |f+1,i,o=>by
  unfold cU;split
  ·split
   ·have:=qO L f (i+1) (o+1);omega
   ·split
    ·split
     ·left;rfl
     ·split
      ·right;omega
      ·have:=qO L f (i+1) (o-1);omega
    ·split
     ·right;omega
     ·have:=qO L f (i+1) o;omega
  ·left;rfl
theorem ph(L:af)(i:Int):Ends L i (ag L i):=by
 unfold ag Ends;split
 ·left;rfl
 ·have:=qO L (L.length+1) i.toNat 0;omega
def lS(L:af):Nat→Nat→Int→Int→Int
 |0,_,_,m=>m
 |f+1,i,n,m =>
  if ae (L.getD i ⟨#[]⟩) [40]then lS L f (i+1) (n+1) (max m (n+1))
  else if ae (L.getD i ⟨#[]⟩) [41]then lS L f (i+1) (n-1) m else lS L f (i+1) n m
def eA(L:af)(i:Int):Int:=if ag L i<0 then -1 else lS L (ag L i-i).toNat i.toNat 0 0
theorem Hj(x y:Int)(w:World) :
  ah 81 #[.int .i64 x,.int .i64 y] w fun e w'=>e=.returned (.int .i64 (max x y))∧w'=w:=by
 by_cases h:y<x
 ·have HM:=aj (by omega:max x y=x);go_enter func81,ntmps81;go_wp2;go_ret;exact⟨by rw[HM.out];rfl,rfl⟩
 ·have HM:=aj (by omega:max x y=y);go_enter func81,ntmps81;go_wp2;go_ret;exact⟨by rw[HM.out];rfl,rfl⟩
theorem zx(a:Option Addr)(cap:Nat)(L:af)(i:Int)(w:World)(h:aD w a L)(hL:L.length≤1048576)(hi:ka i) :
  ah 46 #[.slice a L.length cap,.int .i64 i] w (aA (.int .i64 (eA L i)) w):=by
 have hE:=ph L i;by_cases hneg:ag L i<0
 ·have HD:=aj (by unfold eA;rw[if_pos hneg]:eA L i=-1);go_enter func46,ntmps46;go_wp2_with fail;refine(dk a cap L i _ h hL hi).mono ?_;rintro e w1 ⟨rfl,hb1⟩;generalize ag L i=e at hneg;go_wp2;go_ret;exact⟨by rw[HD.out];rfl,hb1⟩
 have HD:=aj (by unfold eA;rw[if_neg hneg]:eA L i=lS L (ag L i-i).toNat i.toNat 0 0);unfold Ends at hE;obtain⟨k0,rfl⟩:∃k:Nat,i=(k:Int):=⟨i.toNat,by omega⟩;go_enter func46,ntmps46;go_wp2_with fail;refine(dk a cap L (k0:Int) _ h hL hi).mono ?_;rintro e w1 ⟨rfl,hb1⟩;generalize ag L (k0:Int)=E at hneg hE HD;obtain⟨e0,rfl⟩:∃k:Nat,E=(k:Int):=⟨E.toNat,by omega⟩;have hA1:=h.call hb1;go_wp2;go_loopw [1,6,7] (fun v1 v6 v7 wr=>∃(k:Nat) (n m:Int),v1=.int .i64 (k:Int)∧v6=.int .i64 n∧v7=.int .i64 m∧k≤e0∧-(k:Int)≤n∧n≤(k:Int)∧0≤m∧m≤1048576∧Hid (lS L (e0-k) k n m=eA L (k0:Int))∧ai w wr) (fun v1 _ _ _=>e0-(intOf v1).toNat)
 case atStart=>exact⟨k0,0,0,rfl,rfl,rfl,by omega,by omega,by omega,by omega,by omega,by rw[HD.out,show((e0:Int)-(k0:Int)).toNat=e0-k0 by omega];rfl,hb1⟩
 case round =>
  obtain⟨k,n,m,rfl,rfl,rfl,hk,hn0,hn1,hm0,hm1,HT,hB⟩:=hrel;by_cases hlt:k<e0
  ·have hk':k<L.length:=by omega
   obtain⟨sb,off,rfl,hs,hc,_⟩:=h k hk';have hc':=(hB.cell (p:=⟨sb,off+k,none⟩) hs).trans hc;have hG:L.getD k ⟨#[]⟩=L[k]:=by simp[List.getD,hk']
   have hstep:e0-k=(e0-(k+1))+1:=by omega
   have hT:=HT.out;rw[hstep]at hT;unfold lS at hT;rw[hG]at hT;cases h40:ae L[k] [40]
   ·cases h41:ae L[k] [41]
    ·rw[h40,h41]at hT;have HN:=aj hT;have b40:(L[k].toList==[40])=false:=h40;have b41:(L[k].toList==[41])=false:=h41;clear h40 h41 HT hc hT hG hstep HD;generalize L[k]=t at hc' b40 b41;go_wp2;go_roundw
     case rel=>exact⟨k+1,n,m,by go_num,rfl,rfl,by omega,by omega,by omega,hm0,hm1,HN.out,hB⟩
     case measure=>simp[intOf];omega
    ·rw[h40,h41]at hT;have HN:=aj hT;have b40:(L[k].toList==[40])=false:=h40;have b41:(L[k].toList==[41])=true:=h41;clear h40 h41 HT hc hT hG hstep HD;generalize L[k]=t at hc' b40 b41;go_wp2;go_roundw
     case rel=>exact⟨k+1,n-1,m,by go_num,rfl,rfl,by omega,by omega,by omega,hm0,hm1,HN.out,hB⟩
     case measure=>simp[intOf];omega
   ·rw[h40]at hT;have HN:=aj hT;have b40:(L[k].toList==[40])=true:=h40;clear h40 HT hc hT hG hstep HD;generalize L[k]=t at hc' b40;go_wp2_with fail;refine(Hj m (n+1) _).mono ?_;rintro e w2 ⟨rfl,rfl⟩;have hmx:0≤max m (n+1)∧max m (n+1)≤1048576:=by omega
    generalize max m (n+1)=M at HN hmx;go_wp2;go_roundw
    case rel=>exact⟨k+1,n+1,M,by go_num,rfl,rfl,by omega,by omega,by omega,hmx.1,hmx.2,HN.out,hB⟩
    case measure=>simp[intOf];omega
  ·have e1:k=e0:=by omega
   subst e1;have HE:=aj (by rw[←HT.out,Nat.sub_self];rfl:eA L (k0:Int)=m);clear HT HD;go_wp2;go_ret;exact⟨by rw[HE.out];rfl,hB⟩
def iN(L:af):Nat→Int→Bool
 |0,i=>decide (i=(L.length:Int))
 |f+1,i=>if 0≤i∧i<(L.length:Int)then(if 60<eA L i then false else iN L f (aF L (8*L.length+40) 1 i))else decide (i=(L.length:Int))
def aR(L:af):Bool:=decide (L.length≤2000)&&(bQ L&&iN L (L.length+1) 0)
theorem oj{L:af}{f:Nat}{i:Int}(h:¬(0≤i∧i<(L.length:Int))):iN L f i=decide (i=(L.length:Int)):=by
 cases f with
 |zero=>rfl
 |succ f=>unfold iN;rw[if_neg h]
theorem tw{L:af}{f:Nat}{i:Int}(h:0≤i∧i<(L.length:Int))(hd:60<eA L i):iN L (f+1) i=false:=by
 unfold iN;rw[if_pos h,if_pos hd]
theorem tA{L:af}{f:Nat}{i:Int}(h:0≤i∧i<(L.length:Int))(hd:¬60<eA L i):iN L (f+1) i=iN L f (aF L (8*L.length+40) 1 i):=by
 show(if 0≤i∧i<(L.length:Int)then(if 60<eA L i then false else iN L f (aF L (8*L.length+40) 1 i))else decide (i=(L.length:Int)))=_;rw[if_pos h,if_neg hd]
theorem rm(a:Option Addr)(cap:Nat)(L:af)(w:World)(h:aD w a L)(hL:L.length≤1048576) :
  ah 25 #[.slice a L.length cap] w (aA (.bool (aR L)) w):=by
 by_cases hbig:2000<L.length
 ·have HP:=aj (by unfold aR;rw[decide_eq_false (by omega)];rfl:aR L=false);go_enter func25,ntmps25;go_wp2;go_ret;exact⟨by rw[HP.out];rfl,Below.refl _ _⟩
 cases hs:bQ L
 ·have HP:=aj (by unfold aR;rw[hs];simp:aR L=false);have HQ:=aj hs;clear hs;go_enter func25,ntmps25;go_wp2_with fail;refine(A5 a cap L _ h hL).mono ?_;rintro e w1 ⟨rfl,hb1⟩;rw[HQ.out];go_wp2;go_ret;exact⟨by rw[HP.out];rfl,hb1⟩
 have HP:=aj (by unfold aR;rw[hs,decide_eq_true (by omega)];rfl:aR L=iN L (L.length+1) 0);have HQ:=aj hs;clear hs;go_enter func25,ntmps25;go_wp2_with fail;refine(A5 a cap L _ h hL).mono ?_;rintro e w1 ⟨rfl,hb1⟩;rw[HQ.out];go_wp2;go_loopw [3] (fun v wr=>∃(f:Nat) (x:Int),v=.int .i64 x∧-1≤x∧x≤(L.length:Int)∧(L.length:Int)≤x+f∧Hid (iN L f x=aR L)∧ai w wr∨v=.int .i64 (-1)∧aR L=false∧f=0∧x=0∧ai w wr) (fun v _=>aB L (intOf v))
 case atStart=>exact⟨L.length+1,0,Or.inl ⟨rfl,by omega,by omega,by omega,HP.out.symm,hb1⟩⟩
 case round =>
  obtain⟨f,x,hrel⟩:=hrel;rcases hrel with⟨rfl,hx0,hx1,hf,HT,hB⟩|⟨rfl,hp,_,_,hB⟩
  ·by_cases hin:0≤x∧x<(L.length:Int)
   ·obtain⟨h0,h1⟩:=hin;have hA:=h.call hB;obtain⟨g,rfl⟩:∃g,f=g+1:=⟨f-1,by omega⟩;by_cases hd:60<eA L x
    ·have HE:Hid (aR L=false):=(HT.out.symm.trans (tw ⟨h0,h1⟩ hd):aR L=false);clear HT HP;go_wp2_with fail;refine(zx a cap L x _ hA hL ⟨by omega,by omega⟩).mono ?_;rintro e w2 ⟨rfl,hb2⟩;generalize eA L x=D at hd;go_wp2;go_ret;exact⟨by rw[HE.out];rfl,aw hB hb2⟩
    ·have HE:Hid (iN L g (aF L (8*L.length+40) 1 x)=aR L):=((HT.out.symm.trans (tA ⟨h0,h1⟩ hd)).symm:iN L g (aF L (8*L.length+40) 1 x)=aR L);have hE:=(gL L (8*L.length+40)).1 1 x (by decide);have hfe:=gV hE (by omega);have hp:=gm (L:=L) (i:=x) h0 (by omega);have hfar:8*aB L x+1≤8*L.length+40:=by unfold aB;rw[if_neg (by omega)];omega
     clear HT HP;go_wp2_with fail;refine(zx a cap L x _ hA hL ⟨by omega,by omega⟩).mono ?_;rintro e w2 ⟨rfl,hb2⟩;have hA2:=hA.call hb2;have hB2:=aw hB hb2;generalize eA L x=D at hd;go_wp2_with fail;refine((FF a cap L hL (8*L.length+40)).deed x true _ hA2 ⟨by omega,by omega⟩ hfar).mono ?_;rintro e w3 ⟨rfl,hb3⟩;have hB3:=aw hB2 hb3;rw[show(if true=true then 1 else 2)=1 from rfl];generalize aF L (8*L.length+40) 1 x=y at HE hE hfe;unfold Ends at hE;go_wp2;go_roundw
     case rel =>
      by_cases hy:y=-1
      ·refine⟨0,0,Or.inr ⟨by rw[hy],?_,rfl,rfl,hB3⟩⟩;rw[←HE.out,hy,oj (by omega)];exact decide_eq_false (by omega)
      ·exact⟨g,y,Or.inl ⟨rfl,by omega,by omega,by omega,HE.out,hB3⟩⟩
     case measure=>simp[intOf];omega
   ·have HE:Hid (aR L=decide (x=(L.length:Int))):=(HT.out.symm.trans (oj hin):aR L=decide (x=(L.length:Int)));clear HT HP;by_cases hneg:x<0
    ·have hne:(x==(L.length:Int))=false:=by simp;omega
     have HF:=aj (by rw[HE.out];exact decide_eq_false (by omega):aR L=false);go_wp2;go_ret;exact⟨by rw[HF.out];rfl,hB⟩
    ·have e1:x=(L.length:Int):=by omega
     subst e1;have HF:=aj (by rw[HE.out];exact decide_eq_true rfl:aR L=true);go_wp2;go_ret;exact⟨by rw[HF.out];simp,hB⟩
  ·have HF:=aj hp;clear hp HP;have hne:((-1:Int)==(L.length:Int))=false:=beq_eq_false_iff_ne.mpr (by omega);go_wp2;go_ret;exact⟨by rw[HF.out];rfl,hB⟩
end Go.Proofs.YtdojfommmpnbgaaGreatDoor
