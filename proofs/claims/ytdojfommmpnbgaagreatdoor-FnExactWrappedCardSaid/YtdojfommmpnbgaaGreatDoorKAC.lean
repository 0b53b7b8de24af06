import Derived.Test.YtdojfommmpnbgaaGreatDoorKAB
import Derived.WalkKit
import Derived.Scope
import Derived.ScopeJumps
import Derived.WalkMore
set_option maxHeartbeats 4000000
namespace Go.Proofs.YtdojfommmpnbgaaGreatDoor
open Go.RowKit Go.Proofs.Tryz
def nQ(J:Nat→Act→World→Prop)(Q:Exit→Act→World→Prop):Exit→Act→World→Prop
 |.goto l,a,w=>J l a w
 |e,a,w=>Q e a w
theorem iX{J:Nat→Act→World→Prop}{Q:Exit→Act→World→Prop}{a:Act}{w:World}:nQ J Q .ret a w=Q .ret a w:=rfl
theorem Oj{P:Program}{a:Act}{w:World}{Q:Exit→Act→World→Prop}{c:Code}(rest:Nat→Code)(J:Nat→Act→World→Prop)(μ:Nat→Act→World→Nat)
  (hf:∀l a w,J l a w→findLabel c l=some (rest l))
  (first:c.wp P (nQ J Q) a w)
  (pass:∀l a w,J l a w→(rest l).wp P (nQ (fun l' a' w'=>J l' a' w'∧μ l' a' w'<μ l a w) Q) a w):(Code.scope c).wp P Q a w:=by
 intro b k cs;have hg:∀l a w,J l a w→gotoIn l (.inScope c::k)=some (.code (rest l)::.inScope c::k):=fun l a w h=>by simp[gotoIn,hf l a w h]
 have key:∀n l a w,μ l a w=n→J l a w→∃e a' w',Q e a' w'∧Arrives P (lone (b.at a (.code (rest l)::.inScope c::k)) cs w) b k cs e a' w':=by
  intro n;induction n using Nat.strongRecOn with
  |_ n ih =>
   intro l a w hn hJ;obtain⟨e,a₁,w₁,hq,harr⟩:=pass l a w hJ b (.inScope c::k) cs;cases e with
   |normal=>exact⟨.normal,a₁,w₁,hq,Steps.trans harr (.one step_inScope)⟩
   |exit id=>exact⟨.exit id,a₁,w₁,hq,fun k' hk=>harr k' (by simp[exitTo,hk])⟩
   |goto l' =>
    obtain⟨hJ',hlt⟩:=hq;obtain⟨e₂,a₂,w₂,hq₂,harr₂⟩:=ih _ (by omega) l' a₁ w₁ rfl hJ';exact⟨e₂,a₂,w₂,hq₂,.of_steps (harr _ (hg _ _ _ hJ')) harr₂⟩
   |ret=>exact⟨_,a₁,w₁,hq,harr⟩
   |panic ch=>exact⟨_,a₁,w₁,hq,harr⟩
   |outgrown=>exact⟨_,a₁,w₁,hq,harr⟩
 obtain⟨e,a₁,w₁,hq,harr⟩:=first b (.inScope c::k) cs
 cases e with
 |normal=>exact⟨.normal,a₁,w₁,hq,.head step_scope (Steps.trans harr (.one step_inScope))⟩
 |exit id=>exact⟨.exit id,a₁,w₁,hq,fun k' hk=>.head step_scope (harr k' (by simp[exitTo,hk]))⟩
 |goto l' =>
  obtain⟨e₂,a₂,w₂,hq₂,harr₂⟩:=key _ l' a₁ w₁ rfl hq;exact⟨e₂,a₂,w₂,hq₂,.of_steps (.head step_scope (harr _ (hg _ _ _ hq))) harr₂⟩
 |ret=>exact⟨_,a₁,w₁,hq,.of_steps (.one step_scope) harr⟩
 |panic ch=>exact⟨_,a₁,w₁,hq,.of_steps (.one step_scope) harr⟩
 |outgrown=>exact⟨_,a₁,w₁,hq,.of_steps (.one step_scope) harr⟩
theorem Ol{P:Program}{a:Act}{w:World}{Q:Exit→Act→World→Prop}{c r0 r1 r2:Code}(J:Nat→Act→World→Prop)(μ:Nat→Act→World→Nat)
  (h0:findLabel c 0=some r0) (h1:findLabel c 1=some r1) (h2:findLabel c 2=some r2) (hn:∀l a w,J (l+3) a w→False)
  (first:c.wp P (nQ J Q) a w)
  (p0:∀a w,J 0 a w→r0.wp P (nQ (fun l' a' w'=>J l' a' w'∧μ l' a' w'<μ 0 a w) Q) a w)
  (p1:∀a w,J 1 a w→r1.wp P (nQ (fun l' a' w'=>J l' a' w'∧μ l' a' w'<μ 1 a w) Q) a w)
  (p2:∀a w,J 2 a w→r2.wp P (nQ (fun l' a' w'=>J l' a' w'∧μ l' a' w'<μ 2 a w) Q) a w):(Code.scope c).wp P Q a w :=
 Oj (fun|0=>r0|1=>r1|_=>r2) J μ (fun|0,_,_,_=>h0|1,_,_,_=>h1|2,_,_,_=>h2|l+3,a,w,h=>(hn l a w h).elim) first
  (fun|0,a,w,h=>p0 a w h|1,a,w,h=>p1 a w h|2,a,w,h=>p2 a w h|l+3,a,w,h=>(hn l a w h).elim)
structure KU where
 (u1 u2 u5 u6 u7 u8 u9 u10 u11 u12 u13 u14 u15 u16 u17 u18 u19 u20 u21 u22 u23 u24 u25 u26 u27 u28 u29 u30 u31 u32 u33 u34 u35 u36 u37 u38 u39 u40 u41 u42 u43 u44 u45 u46 u47 u48 u49 u50 u51 u52 u53 u54 u55 u56 u57 u58 u59 u60 u61 u62 u63 u64 u65 u66 u67 u68 u69 u70 u71 u72 u73 u74 u75 u76 u77 u78 u79 u80 u81 u82 u83 u84 u85 u86 u87 u88 u89 u90 u91 u92 u93 u94 u95 u96 u97 u98 u99 u100 u101 u102 u103 u104 u105 u106 u107 u108 u109 u110:Value)
def sP(s:ByteArray)(x y:Int)(a:Act):Prop:=∃u:KU,a={ tmps:=#[.string s,u.u1,u.u2,.int .i64 x,.int .i64 y,u.u5,u.u6,u.u7,u.u8,u.u9,u.u10,u.u11,u.u12,u.u13,u.u14,u.u15,u.u16,u.u17,u.u18,u.u19,u.u20,u.u21,u.u22,u.u23,u.u24,u.u25,u.u26,u.u27,u.u28,u.u29,u.u30,u.u31,u.u32,u.u33,u.u34,u.u35,u.u36,u.u37,u.u38,u.u39,u.u40,u.u41,u.u42,u.u43,u.u44,u.u45,u.u46,u.u47,u.u48,u.u49,u.u50,u.u51,u.u52,u.u53,u.u54,u.u55,u.u56,u.u57,u.u58,u.u59,u.u60,u.u61,u.u62,u.u63,u.u64,u.u65,u.u66,u.u67,u.u68,u.u69,u.u70,u.u71,u.u72,u.u73,u.u74,u.u75,u.u76,u.u77,u.u78,u.u79,u.u80,u.u81,u.u82,u.u83,u.u84,u.u85,u.u86,u.u87,u.u88,u.u89,u.u90,u.u91,u.u92,u.u93,u.u94,u.u95,u.u96,u.u97,u.u98,u.u99,u.u100,u.u101,u.u102,u.u103,u.u104,u.u105,u.u106,u.u107,u.u108,u.u109,u.u110],defers:=[] }
theorem mI{s:ByteArray}{x y:Int}(u1 u2 u5 u6 u7 u8 u9 u10 u11 u12 u13 u14 u15 u16 u17 u18 u19 u20 u21 u22 u23 u24 u25 u26 u27 u28 u29 u30 u31 u32 u33 u34 u35 u36 u37 u38 u39 u40 u41 u42 u43 u44 u45 u46 u47 u48 u49 u50 u51 u52 u53 u54 u55 u56 u57 u58 u59 u60 u61 u62 u63 u64 u65 u66 u67 u68 u69 u70 u71 u72 u73 u74 u75 u76 u77 u78 u79 u80 u81 u82 u83 u84 u85 u86 u87 u88 u89 u90 u91 u92 u93 u94 u95 u96 u97 u98 u99 u100 u101 u102 u103 u104 u105 u106 u107 u108 u109 u110:Value):sP s x y { tmps:=#[.string s,u1,u2,.int .i64 x,.int .i64 y,u5,u6,u7,u8,u9,u10,u11,u12,u13,u14,u15,u16,u17,u18,u19,u20,u21,u22,u23,u24,u25,u26,u27,u28,u29,u30,u31,u32,u33,u34,u35,u36,u37,u38,u39,u40,u41,u42,u43,u44,u45,u46,u47,u48,u49,u50,u51,u52,u53,u54,u55,u56,u57,u58,u59,u60,u61,u62,u63,u64,u65,u66,u67,u68,u69,u70,u71,u72,u73,u74,u75,u76,u77,u78,u79,u80,u81,u82,u83,u84,u85,u86,u87,u88,u89,u90,u91,u92,u93,u94,u95,u96,u97,u98,u99,u100,u101,u102,u103,u104,u105,u106,u107,u108,u109,u110],defers:=[] }:=⟨⟨u1,u2,u5,u6,u7,u8,u9,u10,u11,u12,u13,u14,u15,u16,u17,u18,u19,u20,u21,u22,u23,u24,u25,u26,u27,u28,u29,u30,u31,u32,u33,u34,u35,u36,u37,u38,u39,u40,u41,u42,u43,u44,u45,u46,u47,u48,u49,u50,u51,u52,u53,u54,u55,u56,u57,u58,u59,u60,u61,u62,u63,u64,u65,u66,u67,u68,u69,u70,u71,u72,u73,u74,u75,u76,u77,u78,u79,u80,u81,u82,u83,u84,u85,u86,u87,u88,u89,u90,u91,u92,u93,u94,u95,u96,u97,u98,u99,u100,u101,u102,u103,u104,u105,u106,u107,u108,u109,u110⟩,rfl⟩
def kJ(s:ByteArray)(w:World):Nat→Act→World→Prop
 |0,a,w'=>w'=w∧∃x y,sP s x y a∧∃k:Nat,x=k∧k<s.size∧k<8∧ed (aI s 0)=true∧eV ir s 0 (k+1)
 |1,a,w'=>w'=w∧∃x y,sP s x y a∧∃k d:Nat,x=k∧y=d∧k<s.size∧d≤9∧k=cE s+d∧eV bI s (cE s) k∧(bI (aI s 0)=true∨(aI s 0=45∧aI s 1≠48∧1<s.size))∧¬(aI s 0=48∧1<s.size)
 |2,a,w'=>w'=w∧∃x y,sP s x y a∧∃k:Nat,x=k∧k<s.size∧k≤60∧aI s 0=39∧(∀j,1≤j→j≤k→aI s j≠39)
 |_,_,_=>False
def qR(s:ByteArray)(_l:Nat)(a:Act)(_w:World):Nat:=s.size-(intOf (a.tmps.getD 3 undef)).toNat
theorem Bd{s:ByteArray}(h3:ed (aI s 0)=true)(hn:¬kO s):bn s=0:=by
 simp[ed]at h3;refine pk hn (fun h=>?_) (fun h=>?_) (fun h=>?_) (fun h=>?_)
 ·rcases l8 h with hd|hd
  ·simp[bI]at hd;omega
  ·omega
 ·have:=h.2.1;omega
 ·have:=h.2;omega
 ·have:=h.2;omega
theorem I7{s:ByteArray}{k:Nat}(h2:k<8)(h3:ed (aI s 0)=true)(h4:eV ir s 0 (k+1))(e1:k+1=s.size):bn s=2 :=
 qS ⟨by omega,by omega,h3,e1▸h4⟩
theorem I9{s:ByteArray}{k:Nat}(h1:k<s.size)(h3:ed (aI s 0)=true)(e1:k+1≠s.size)(e2:¬k+1<8):bn s=0 :=
 Bd h3 fun h=>by have:=h.2.1;omega
theorem Ja{s:ByteArray}{k:Nat}(h3:ed (aI s 0)=true)(e1:k+1<s.size)(e2:ed (aI s (k+1))=false)(e3:bI (aI s (k+1))=false):bn s=0 :=
 Bd h3 fun h=>by
  have:=h.2.2.2 (k+1) (by omega) e1;simp[ir,e2,e3]at this
theorem wo{s:ByteArray}(h5:bI (aI s 0)=true∨(aI s 0=45∧aI s 1≠48∧1<s.size))(hn:¬kp s):bn s=0:=by
 have hb:(48≤aI s 0∧aI s 0≤57)∨(aI s 0=45∧1<s.size):=by
  rcases h5 with h|h
  ·simp[bI]at h;exact Or.inl h
  ·exact Or.inr ⟨h.1,h.2.2⟩
 refine pk (fun h=>?_) hn (fun h=>?_) (fun h=>?_) (fun h=>?_)
 ·have:=h.2.2.1;simp[ed]at this;omega
 ·have:=h.2.1;omega
 ·have:=h.2;omega
 ·have:=h.2;have:=h.1;omega
theorem Jq{s:ByteArray}{k:Nat}(h5:bI (aI s 0)=true∨(aI s 0=45∧aI s 1≠48∧1<s.size))(h1:k<s.size)(hk:cE s≤k)(hd:bI (aI s k)=false):bn s=0 :=
 wo h5 fun h=>by rw[h.2.2.1 k hk h1]at hd;exact absurd hd (by decide)
theorem Jo{s:ByteArray}{k d:Nat}(h5:bI (aI s 0)=true∨(aI s 0=45∧aI s 1≠48∧1<s.size))(h1:k<s.size)(h3:k=cE s+d)(hd:d=9):bn s=0 :=
 wo h5 fun h=>by have:=h.2.1;omega
theorem Jn{s:ByteArray}{k d:Nat}(h2:d<9)(h3:k=cE s+d)(h4:eV bI s (cE s) (k+1))(h5:bI (aI s 0)=true∨(aI s 0=45∧aI s 1≠48∧1<s.size))(h6:¬(aI s 0=48∧1<s.size))(e:k+1=s.size):bn s=3:=by
 refine mJ ⟨by omega,by omega,e▸h4,?_⟩;rintro⟨q1,q2⟩;rcases h5 with h|h
 ·have e0:cE s=0:=by simp[bI]at h;unfold cE;rw[if_neg (by omega)]
  rw[e0]at q1 q2;exact h6 ⟨q1,q2.resolve_left (by omega)⟩
 ·have e0:cE s=1:=by unfold cE;rw[if_pos h.1]
  rw[e0]at q1;exact h.2.1 q1
theorem OF{s:ByteArray}(h0:aI s 0=48)(h:1<s.size):bn s=0 :=
 wo (Or.inl (by rw[h0];rfl)) fun hn=>by
  have e:cE s=0:=by unfold cE;rw[if_neg (by omega)]
  have:=hn.2.2.2;rw[e]at this;exact this ⟨h0,Or.inr h⟩
theorem Is{s:ByteArray}(hl:ed (aI s 0)=false)(hd:bI (aI s 0)=false)(h:s.size=1):bn s=oN (aI s 0):=by
 have hn:¬kO s:=fun hh=>by rw[hh.2.2.1]at hl;exact absurd hl (by decide)
 have hm:¬kp s:=fun hh=>by
  rcases l8 hh with q|q
  ·rw[q]at hd;exact absurd hd (by decide)
  ·omega
 have ho:¬lX s:=fun hh=>by have:=hh.1;omega
 unfold oN;split
 ·rename_i q;exact vB ⟨h,q⟩
 ·split
  ·rename_i q;exact vA ⟨h,q⟩
  ·rename_i q1 q2;exact pk hn hm ho (fun hh=>q1 hh.2) (fun hh=>q2 hh.2)
theorem CO{s:ByteArray}(hl:ed (aI s 0)=false)(hd:bI (aI s 0)=false)(hq:aI s 0≠39)(h:s.size≠1)(hm:¬(aI s 0=45∧aI s 1≠48)):bn s=0 :=
 pk (fun hh=>by rw[hh.2.2.1]at hl;exact absurd hl (by decide))
  (fun hh=>by
   rcases l8 hh with q|q
   ·rw[q]at hd;exact absurd hd (by decide)
   ·exact hm ⟨q.1,q.2.2.2⟩)
  (fun hh=>hq hh.2.1) (fun hh=>h hh.1) (fun hh=>h hh.1)
theorem rr{s:ByteArray}(h3:aI s 0=39)(hn:¬lX s):bn s=0:=by
 refine pk (fun h=>?_) (fun h=>?_) hn (fun h=>?_) (fun h=>?_)
 ·have:=h.2.2.1;simp[ed]at this;omega
 ·rcases l8 h with hd|hd
  ·simp[bI]at hd;omega
  ·omega
 ·have:=h.2;omega
 ·have:=h.2;omega
theorem Fe{s:ByteArray}{i j k:Nat}(hj:j≤s.size)(hk:k<j-i):aI (s.extract i j) k=aI s (i+k):=by
 have h1:k<(s.extract i j).size:=by simp;omega
 have h2:i+k<s.size:=by omega
 rw[fP h1,fP h2];simp[ByteArray.getElem_eq_getElem_data]
theorem Nl{s:ByteArray}{i j k:Nat}(hj:j≤s.size)(hi:i≤k)(hk:k<j)(h:fM (s.extract i j)=true):jg (aI s k)=true:=by
 by_cases hb:jg (aI s k)=true
 ·exact hb
 ·have h1:k-i<(s.extract i j).size:=by simp;omega
  have e:=Fe (s:=s) (i:=i) (j:=j) (k:=k-i) hj (by omega);rw[show i+(k-i)=k by omega]at e;rw[xt _ (k-i) h1 (by rw[←fP h1,e];simpa using hb)]at h;exact absurd h (by decide)
theorem K8{s:ByteArray}{k:Nat}(h3:aI s 0=39)(h4:∀j,1≤j→j≤k→aI s j≠39)(e:k+1=s.size):bn s=0 :=
 rr h3 fun h=>by
  have:=h.1;have:=h4 (s.size-1) (by omega) (by omega);exact this h.2.2.1
theorem La{s:ByteArray}{k:Nat}(h3:aI s 0=39)(e:k+1<s.size-1)(e2:60<k+1):bn s=0 :=
 rr h3 fun h=>by
  have:=h.2.2.2;unfold fM at this;simp at this;omega
theorem K7{s:ByteArray}{k:Nat}(h3:aI s 0=39)(e:k+1<s.size-1)(e2:aI s (k+1)=39):bn s=0 :=
 rr h3 fun h=>by
  have:=Nl (s:=s) (i:=1) (j:=s.size-1) (k:=k+1) (by omega) (by omega) e h.2.2.2;rw[e2]at this;exact absurd this (by decide)
theorem K9{s:ByteArray}{k:Nat}(h3:aI s 0=39)(e:k+1=s.size-1)(e2:aI s (k+1)≠39):bn s=0 :=
 rr h3 fun h=>e2 (e▸h.2.2.1)
theorem Lb{s:ByteArray}{k:Nat}(h3:aI s 0=39)(e:k+1=s.size-1)(e2:aI s (k+1)=39):bn s=if fM (s.extract 1 (k+1))then 4 else 0:=by
 cases h:fM (s.extract 1 (k+1))
 ·rw[if_neg (by decide)];refine rr h3 fun hq=>?_
  have:=hq.2.2.2;rw[←e,h]at this;exact absurd this (by decide)
 ·rw[if_pos rfl];refine nR ⟨by omega,h3,e▸e2,e▸h⟩
set_option maxRecDepth 100000 in
theorem ow(s:ByteArray)(w:World)(hs:s.size≤maxLen) :
  ah 162 #[.string s] w fun e w'=>e=.returned (.int .i64 (bn s))∧w'=w:=by
 unfold maxLen at hs;go_enter func162,ntmps162;go_wp2;refine Ol (kJ s w) (qR s) rfl rfl rfl (fun _ _ _ h=>h) ?first ?p0 ?p1 ?p2
 case first =>
  by_cases hz:s.size=0
  ·have hse:s=⟨#[]⟩:=by
    apply ByteArray.ext;exact Array.eq_empty_of_size_eq_zero hz
   subst hse
   go_wp2
   rw[iX]
   go_ret
   exact⟨rfl,rfl⟩
  have h0:0<s.size:=by omega
  have hb:s.toList.isEmpty=false:=by
   rw[←decide_eq_emptyBytes];exact decide_eq_false fun h=>hz (by rw[h];rfl)
  have eb:=fP h0;have lo:=Eh s 0;have hi:=Eg s 0;cases hl:ed (aI s 0)
  ·have HL:Hid (ed (s[0].toNat:Int)=false):=by rw[←eb];exact hl
   by_cases hz2:aI s 0=48∧1<s.size
   ·have HK:Hid (bn s=0):=OF hz2.1 hz2.2;have c48:((s[0].toNat:Int)==48)=true:=by simp;omega
    have c1:=hz2.2;clear hl lo hi hz2 eb;go_wp2_with fail;refine(kR _ _).mono ?_;rintro e w1 ⟨rfl,rfl⟩;rw[HL.out];go_wp2;rw[iX];go_ret;rw[HK.out];exact⟨rfl,rfl⟩
   cases hd:bI (aI s 0)
   ·have HD:Hid (bI (s[0].toNat:Int)=false):=by rw[←eb];exact hd
    have c48:((s[0].toNat:Int)==48)=false:=by simp[bI]at hd;simp;omega
    by_cases q39:aI s 0=39
    ·have H39:=aj q39;have c39:((s[0].toNat:Int)==39)=true:=by simp;omega
     clear hl hd lo hi hz2 q39 eb;go_wp2_with fail;refine(kR _ _).mono ?_;rintro e w1 ⟨rfl,rfl⟩;rw[HL.out];go_wp2_with fail;refine(kI _ _).mono ?_;rintro e w1 ⟨rfl,rfl⟩;rw[HD.out];go_wp2;go_step3;show kJ s _ 2 _ _;refine⟨rfl,_,_,mI ..,0,?_,h0,?_,H39.out,?_⟩
     ·rfl
     ·omega
     ·intro j a b;omega
    have c39:((s[0].toNat:Int)==39)=false:=by simp;omega
    by_cases e1:s.size=1
    ·have HK:Hid (bn s=oN (s[0].toNat:Int)):=by rw[←eb];exact Is hl hd e1
     have b1:((s.size:Int)==1)=true:=by simp;omega
     clear hl hd lo hi hz2 q39 eb e1;go_wp2_with fail;refine(kR _ _).mono ?_;rintro e w1 ⟨rfl,rfl⟩;rw[HL.out];go_wp2_with fail;refine(kI _ _).mono ?_;rintro e w1 ⟨rfl,rfl⟩;rw[HD.out];go_wp2_with fail;refine(Ei _ _).mono ?_;rintro e w1 ⟨rfl,rfl⟩;go_wp2;rw[iX];go_ret;rw[HK.out];exact⟨rfl,rfl⟩
    have b1:((s.size:Int)==1)=false:=by simp;omega
    have hlt:1<s.size:=by omega
    have eb1:=fP hlt;by_cases q45:aI s 0=45
    ·have c45:((s[0].toNat:Int)==45)=true:=by simp;omega
     by_cases q48:aI s 1=48
     ·have HK:Hid (bn s=0):=CO hl hd q39 e1 (fun h=>h.2 q48);have d48:((s[1].toNat:Int) != 48)=false:=by simp;omega
      clear hl hd lo hi hz2 q39 eb eb1 e1 q45 q48;go_wp2_with fail;refine(kR _ _).mono ?_;rintro e w1 ⟨rfl,rfl⟩;rw[HL.out];go_wp2_with fail;refine(kI _ _).mono ?_;rintro e w1 ⟨rfl,rfl⟩;rw[HD.out];go_wp2;rw[iX];go_ret;rw[HK.out];exact⟨rfl,rfl⟩
     ·have d48:((s[1].toNat:Int) != 48)=true:=by simp;omega
      have H1:=aj (by unfold cE;rw[if_pos q45]:cE s=1);have H5:Hid (bI (aI s 0)=true∨(aI s 0=45∧aI s 1≠48∧1<s.size)):=Or.inr ⟨q45,q48,hlt⟩;have H6:=aj hz2;clear hl hd lo hi hz2 q39 eb eb1 e1 q45 q48;go_wp2_with fail;refine(kR _ _).mono ?_;rintro e w1 ⟨rfl,rfl⟩;rw[HL.out];go_wp2_with fail;refine(kI _ _).mono ?_;rintro e w1 ⟨rfl,rfl⟩;rw[HD.out];go_wp2;go_step3;show kJ s _ 1 _ _;refine⟨rfl,_,_,mI ..,1,0,?_,?_,hlt,?_,?_,?_,H5.out,H6.out⟩
      ·rfl
      ·rfl
      ·omega
      ·rw[H1.out]
      ·rw[H1.out];exact pZ _ _ _
    ·have HK:Hid (bn s=0):=CO hl hd q39 e1 (fun h=>q45 h.1);have c45:((s[0].toNat:Int)==45)=false:=by simp;omega
     clear hl hd lo hi hz2 q39 eb eb1 e1 q45;go_wp2_with fail;refine(kR _ _).mono ?_;rintro e w1 ⟨rfl,rfl⟩;rw[HL.out];go_wp2_with fail;refine(kI _ _).mono ?_;rintro e w1 ⟨rfl,rfl⟩;rw[HD.out];go_wp2;rw[iX];go_ret;rw[HK.out];exact⟨rfl,rfl⟩
   ·have HD:Hid (bI (s[0].toNat:Int)=true):=by rw[←eb];exact hd
    have H5:Hid (bI (aI s 0)=true∨(aI s 0=45∧aI s 1≠48∧1<s.size)):=Or.inl hd;have H6:=aj hz2;have H1:=aj (by simp[bI]at hd;unfold cE;rw[if_neg (by omega)]:cE s=0);have hor:(((s[0].toNat:Int)==48)=false)∨(((s[0].toNat:Int)==48)=true∧(s.size:Int)≤1):=by
     by_cases c:(s[0].toNat:Int)=48
     ·right;exact⟨by simp;omega,by omega⟩
     ·left;simp;omega
    clear hl hd lo hi hz2 eb;rcases hor with c48|⟨c48,c1⟩
    all_goals
     go_wp2_with fail
     refine(kR _ _).mono ?_
     rintro e w1 ⟨rfl,rfl⟩
     rw[HL.out]
     go_wp2_with fail
     refine(kI _ _).mono ?_
     rintro e w1 ⟨rfl,rfl⟩
     rw[HD.out]
     go_wp2
     go_step3
     show kJ s _ 1 _ _
     refine⟨rfl,_,_,mI ..,0,0,?_,?_,h0,?_,?_,?_,H5.out,H6.out⟩
     ·rfl
     ·rfl
     ·omega
     ·rw[H1.out]
     ·rw[H1.out];exact pZ _ _ _
  ·have HA:Hid (eV ir s 0 (0+1)):=fun j _ hj=>by
    have:j=0:=by omega
    subst this;simp[ir,hl]
   have H0:=aj hl
   rw[eb]at hl
   have HL:Hid (ed (s[0].toNat:Int)=true):=hl
   clear hl eb lo hi
   go_wp2_with fail
   refine(kR _ _).mono ?_
   rintro e w1 ⟨rfl,rfl⟩
   rw[HL.out]
   go_wp2
   go_step3
   show kJ s _ 0 _ _
   refine⟨rfl,_,_,mI ..,0,?_,h0,?_,H0.out,HA.out⟩
   ·rfl
   ·omega
 case p1 =>
  rintro a w' ⟨rfl,x,y,⟨u,rfl⟩,k,d,rfl,rfl,h1,h2,h3,h4,h5,h6⟩;have hge:cE s≤k:=by omega
  have H3:=aj h3;clear h3;by_cases e9:d=9
  ·have HK:Hid (bn s=0):=Jo h5 h1 H3.out e9;subst e9;go_wp2;rw[iX];go_ret;rw[HK.out];exact⟨rfl,rfl⟩
  have b9:((d:Int)==9)=false:=by simp;omega
  have eb:=fP h1;cases hd:bI (aI s k)
  ·have HK:Hid (bn s=0):=Jq h5 h1 hge hd;rw[eb]at hd;have HD:Hid (bI (s[k].toNat:Int)=false):=hd;clear hd eb;go_wp2_with fail;refine(kI _ _).mono ?_;rintro e w1 ⟨rfl,rfl⟩;rw[HD.out];go_wp2;rw[iX];go_ret;rw[HK.out];exact⟨rfl,rfl⟩
  ·have hA:eV bI s (cE s) (k+1):=oL h4 hd;rw[eb]at hd;have HD:Hid (bI (s[k].toNat:Int)=true):=hd;clear hd eb;by_cases e1:k+1=s.size
   ·have HK:Hid (bn s=3):=Jn (by omega) H3.out hA h5 h6 e1;go_wp2_with fail;refine(kI _ _).mono ?_;rintro e w1 ⟨rfl,rfl⟩;rw[HD.out];go_wp2;rw[iX];go_ret;rw[HK.out];exact⟨rfl,rfl⟩
   ·have hlt:k+1<s.size:=by omega
    go_wp2_with fail;refine(kI _ _).mono ?_;rintro e w1 ⟨rfl,rfl⟩;rw[HD.out];go_wp2;go_step3;show kJ s _ 1 _ _∧_<_;refine⟨⟨rfl,_,_,mI ..,k+1,d+1,?_,?_,hlt,?_,?_,hA,h5,h6⟩,?_⟩
    ·omega
    ·omega
    ·omega
    ·have:=H3.out;omega
    ·simp[qR,intOf];omega
 case p2 =>
  rintro a w' ⟨rfl,x,y,⟨u,rfl⟩,k,rfl,h1,h2,h3,h4⟩;by_cases e1:k+1=s.size
  ·have HK:Hid (bn s=0):=K8 h3 h4 e1;have b1:((k:Int)+1==(s.size:Int)-1)=false:=by simp;omega
   go_wp2;rw[iX];go_ret;rw[HK.out];exact⟨rfl,rfl⟩
  have hlt:k+1<s.size:=by omega
  have eb:=fP hlt;by_cases q:aI s (k+1)=39
  ·rw[eb]at q;have b39:((s[k+1].toNat:Int) != 39)=false:=by simp;omega
   have c39:((s[k+1].toNat:Int)==39)=true:=by simp;omega
   by_cases e2:k+1=s.size-1
   ·have HK:Hid (bn s=if fM (s.extract 1 (k+1))then 4 else 0):=Lb h3 e2 (by rw[eb];exact q);have b1:((k:Int)+1==(s.size:Int)-1)=true:=by simp;omega
    have b60:(k:Int)+1≤60∨60<(k:Int)+1:=by omega
    clear e2;cases ht:fM (s.extract 1 (k+1))
    all_goals
     have HT:=aj ht
     rw[ht]at HK
     clear ht eb q
     rcases b60 with b60|b60
     all_goals
      go_wp2_with fail
      refine(Dp _ _ (by simp[maxLen];omega)).mono ?_
      rintro e w1 ⟨rfl,rfl⟩
      first
       |rw[HT.out]
       |(rw[show((k:Int)+1).toNat=k+1 by omega,HT.out])
      go_wp2
      rw[iX]
      go_ret
      rw[HK.out]
      exact⟨rfl,rfl⟩
   ·have HK:Hid (bn s=0):=K7 (k:=k) h3 (by omega) (by rw[eb];exact q);have b1:((k:Int)+1==(s.size:Int)-1)=false:=by simp;omega
    have b60:(k:Int)+1≤60∨60<(k:Int)+1:=by omega
    clear eb q;rcases b60 with b60|b60
    all_goals
     go_wp2
     rw[iX]
     go_ret
     rw[HK.out]
     exact⟨rfl,rfl⟩
  ·have q0:=q;rw[eb]at q;have b39:((s[k+1].toNat:Int) != 39)=true:=by simp;omega
   have c39:((s[k+1].toNat:Int)==39)=false:=by simp;omega
   by_cases e6:k+1≤60
   ·have HA:Hid (∀j,1≤j→j≤k+1→aI s j≠39):=fun j a b=>by
     by_cases ej:j=k+1
     ·rw[ej];exact q0
     ·exact h4 j a (by omega)
    clear eb q q0
    go_wp2
    go_step3
    show kJ s _ 2 _ _∧_<_
    refine⟨⟨rfl,_,_,mI ..,k+1,?_,hlt,e6,h3,HA.out⟩,?_⟩
    ·omega
    ·simp[qR,intOf];omega
   ·by_cases e2:k+1=s.size-1
    ·have HK:Hid (bn s=0):=K9 h3 e2 q0;have b1:((k:Int)+1==(s.size:Int)-1)=true:=by simp;omega
     clear eb q q0 e2;go_wp2;rw[iX];go_ret;rw[HK.out];exact⟨rfl,rfl⟩
    ·have HK:Hid (bn s=0):=La (k:=k) h3 (by omega) (by omega);have b1:((k:Int)+1==(s.size:Int)-1)=false:=by simp;omega
     clear eb q q0;go_wp2;rw[iX];go_ret;rw[HK.out];exact⟨rfl,rfl⟩
 case p0 =>
  rintro a w' ⟨rfl,x,y,⟨u,rfl⟩,k,rfl,h1,h2,h3,h4⟩;by_cases e1:k+1=s.size
  ·have HK:Hid (bn s=2):=I7 h2 h3 h4 e1;have b1:((k:Int)+1==(s.size:Int))=true:=by simp;omega
   go_wp2;rw[iX];go_ret;rw[HK.out];exact⟨rfl,rfl⟩
  have b1:((k:Int)+1==(s.size:Int))=false:=by simp;omega
  by_cases e2:k+1<8
  ·have hlt:k+1<s.size:=by omega
   have eb:=fP hlt;cases hl:ed (aI s (k+1))
   ·cases hd:bI (aI s (k+1))
    ·have HK:Hid (bn s=0):=Ja h3 hlt hl hd;rw[eb]at hl hd;have HL:Hid (ed (s[k+1].toNat:Int)=false):=hl;have HD:Hid (bI (s[k+1].toNat:Int)=false):=hd;clear hl hd eb;go_wp2_with fail;refine(kR _ _).mono ?_;rintro e w1 ⟨rfl,rfl⟩;rw[HL.out];go_wp2_with fail;refine(kI _ _).mono ?_;rintro e w1 ⟨rfl,rfl⟩;rw[HD.out];go_wp2;rw[iX];go_ret;rw[HK.out];exact⟨rfl,rfl⟩
    ·have HA:Hid (eV ir s 0 (k+1+1)):=oL h4 (by simp[ir,hd]);rw[eb]at hl hd;have HL:Hid (ed (s[k+1].toNat:Int)=false):=hl;have HD:Hid (bI (s[k+1].toNat:Int)=true):=hd;clear hl hd eb;go_wp2_with fail;refine(kR _ _).mono ?_;rintro e w1 ⟨rfl,rfl⟩;rw[HL.out];go_wp2_with fail;refine(kI _ _).mono ?_;rintro e w1 ⟨rfl,rfl⟩;rw[HD.out];go_wp2;go_step3;show kJ s _ 0 _ _∧_<_;refine⟨⟨rfl,_,_,mI ..,k+1,?_,hlt,e2,h3,HA.out⟩,?_⟩
     ·omega
     ·simp[qR,intOf];omega
   ·have HA:Hid (eV ir s 0 (k+1+1)):=oL h4 (by simp[ir,hl]);rw[eb]at hl;have HL:Hid (ed (s[k+1].toNat:Int)=true):=hl;clear hl eb;go_wp2_with fail;refine(kR _ _).mono ?_;rintro e w1 ⟨rfl,rfl⟩;rw[HL.out];go_wp2;go_step3;show kJ s _ 0 _ _∧_<_;refine⟨⟨rfl,_,_,mI ..,k+1,?_,hlt,e2,h3,HA.out⟩,?_⟩
    ·omega
    ·simp[qR,intOf];omega
  ·have HK:Hid (bn s=0):=I9 h1 h3 e1 e2;go_wp2;rw[iX];go_ret;rw[HK.out];exact⟨rfl,rfl⟩
theorem nV(s:ByteArray)(w:World)(hs:s.size≤maxLen) :
  ah 52 #[.string s] w fun e w'=>e=.returned (.bool (bt s))∧w'=w:=by
 unfold maxLen at hs;by_cases hin:1≤s.size∧s.size≤8
 ·have HIN:=aj (by simp;omega:(decide ((1:Int)≤(s.size:Int))&&decide ((s.size:Int)≤8))=true);have h0:0<s.size:=by omega
  have eb:=fP h0;by_cases hl:97≤aI s 0∧aI s 0≤122
  ·have h97:97≤(s[0].toNat:Int):=by omega
   have h122:(s[0].toNat:Int)≤122:=by omega
   have H0:=aj (by simp[ed,hl]:ed (aI s 0)=true);have H8:=aj hin;clear eb hl hin;go_enter func52,ntmps52;go_wp2_with fail;refine(vM _ _ _ _).mono ?_;rintro e w1 ⟨rfl,rfl⟩;rw[HIN.out];go_wp2;go_loop [3] (fun i=>∃k:Nat,k≤s.size∧i=.int .i64 k∧Hid (eV ir s 0 k)) (fun i=>s.size-(intOf i).toNat)
   case atStart=>exact⟨0,Nat.zero_le _,rfl,pZ _ _ _⟩
   case round =>
    obtain⟨k,hk,rfl,HA⟩:=hrel;by_cases hlt:k<s.size
    ·have eb:=fP hlt;cases ha:ir (aI s k)
     ·have HB:Hid (bt s=false):=Bool.eq_false_iff.mpr fun h=>by
       rw[((iY s).mp h).2.2.2 k (by omega) hlt]at ha;exact absurd ha (by decide)
      have hq:(s[k].toNat:Int)<48∨(57<(s[k].toNat:Int)∧(s[k].toNat:Int)<97)∨122<(s[k].toNat:Int):=by
       simp[ir,ed,bI]at ha;omega
      clear eb ha
      rcases hq with q1|⟨q1,q2⟩|q1
      all_goals
       go_wp2
       go_ret
       rw[HB.out]
       exact⟨rfl,rfl⟩
     ·have HN:Hid (eV ir s 0 (k+1)):=oL HA.out ha;have hq:(97≤(s[k].toNat:Int)∧(s[k].toNat:Int)≤122)∨((s[k].toNat:Int)<97∧48≤(s[k].toNat:Int)∧(s[k].toNat:Int)≤57):=by
       simp[ir,ed,bI]at ha;omega
      clear eb ha;rcases hq with⟨q1,q2⟩|⟨q1,q2,q3⟩
      all_goals
       go_wp2
       exact⟨⟨k+1,by omega,by go_num,HN⟩,by simp[intOf];omega⟩
    ·have HB:Hid (bt s=true):=(iY s).mpr ⟨H8.out.1,H8.out.2,H0.out,by rw[show s.size=k by omega];exact HA.out⟩;go_wp2;go_ret;rw[HB.out];exact⟨rfl,rfl⟩
  ·have HB:Hid (bt s=false):=Bool.eq_false_iff.mpr fun h=>by
    have:=((iY s).mp h).2.2.1;simp[ed]at this;omega
   have hq:(s[0].toNat:Int)<97∨122<(s[0].toNat:Int):=by omega
   clear eb hl hin
   rcases hq with q1|q1
   all_goals
    go_enter func52,ntmps52
    go_wp2_with fail
    refine(vM _ _ _ _).mono ?_
    rintro e w1 ⟨rfl,rfl⟩
    rw[HIN.out]
    go_wp2
    go_ret
    rw[HB.out]
    exact⟨rfl,rfl⟩
 ·have HIN:=aj (by simp;omega:(decide ((1:Int)≤(s.size:Int))&&decide ((s.size:Int)≤8))=false);have HB:Hid (bt s=false):=Bool.eq_false_iff.mpr fun h=>by
   have:=(iY s).mp h;exact hin ⟨this.1,this.2.1⟩
  clear hin;go_enter func52,ntmps52;go_wp2_with fail;refine(vM _ _ _ _).mono ?_;rintro e w1 ⟨rfl,rfl⟩;rw[HIN.out];go_wp2;go_ret;rw[HB.out];exact⟨rfl,rfl⟩
theorem sS(s:ByteArray)(w:World)(hs:s.size≤maxLen) :
  ah 141 #[.string s] w fun e w'=>e=.returned (.bool (fY s))∧w'=w:=by
 unfold maxLen at hs;by_cases h1:1<s.size
 ·have h0:0<s.size:=by omega
  have hm:s.size-1<s.size:=by omega
  have eb:=fP h0;have em:=fP hm;by_cases q1:aI s 0=39
  ·have c39:((s[0].toNat:Int)==39)=true:=by simp;omega
   by_cases q2:aI s (s.size-1)=39
   ·have d39:((s[s.size-1].toNat:Int)==39)=true:=by simp;omega
    have HB:=aj (by unfold fY;simp[h1,q1,q2]:fY s=fM (s.extract 1 (s.size-1)));clear eb em q1 q2;go_enter func141,ntmps141;go_wp2_with fail;refine(Hk _ _ (by simp[maxLen];omega)).mono ?_;rintro e w1 ⟨rfl,rfl⟩;go_wp2;go_ret;rw[HB.out];exact⟨rfl,rfl⟩
   ·have d39:((s[s.size-1].toNat:Int)==39)=false:=by simp;omega
    have HB:=aj (by unfold fY;simp[q2]:fY s=false);clear eb em q1 q2;go_enter func141,ntmps141;go_wp2;go_ret;rw[HB.out];exact⟨rfl,rfl⟩
  ·have c39:((s[0].toNat:Int)==39)=false:=by simp;omega
   have HB:=aj (by unfold fY;simp[q1]:fY s=false);clear eb em q1;go_enter func141,ntmps141;go_wp2;go_ret;rw[HB.out];exact⟨rfl,rfl⟩
 ·have HB:=aj (by unfold fY;simp[h1]:fY s=false);go_enter func141,ntmps141;go_wp2;go_ret;rw[HB.out];exact⟨rfl,rfl⟩
def ia(s:ByteArray):Int:=if da s then gz s else 0
theorem mQ{s:ByteArray}(h:da s=false):da s=false∧ia s=0:=⟨h,by simp[ia,h]⟩
theorem rb{s:ByteArray}{n:Int}(h:da s=true)(e:gz s=n):da s=true∧ia s=n:=⟨h,by simp[ia,h,e]⟩
theorem lB(s:ByteArray)(w:World)(hs:s.size≤maxLen) :
  ah 140 #[.string s] w fun e w'=>e=.returned (.tuple #[.int .i64 (ia s),.bool (da s)])∧w'=w:=by
 unfold maxLen at hs;by_cases hz:s.size=0
 ·have hse:s=⟨#[]⟩:=by
   apply ByteArray.ext;exact Array.eq_empty_of_size_eq_zero hz
  subst hse
  go_enter func140,ntmps140
  go_wp2
  go_ret2
  exact⟨rfl,rfl⟩
 have h0:0<s.size:=by omega
 have hb:s.toList.isEmpty=false:=by
  rw[←decide_eq_emptyBytes];exact decide_eq_false fun h=>hz (by rw[h];rfl)
 have eb0:=fP h0;clear hz;by_cases q45:aI s 0=45
 ·have c45:((s[0].toNat:Int)==45)=true:=by simp;omega
  have hi:cE s=1:=by unfold cE;rw[if_pos q45]
  clear eb0 q45;by_cases hr:s.size<2∨10<s.size
  ·have HB:Hid (da s=false∧ia s=0):=mQ <| Bool.eq_false_iff.mpr fun h=>by
    have h:=(fk s).mp h;have h1:=h.1;have h2:=h.2.1;rw[hi]at h1 h2;omega
   go_enter func140,ntmps140
   clear hi
   rcases hr with hr|hr
   all_goals
    go_wp2
    go_ret2
    rw[HB.out.1,HB.out.2]
    exact⟨rfl,rfl⟩
  have hp9:1*10^(s.size-1)≤1000000000:=by
   have:10^(s.size-1)≤10^9:=Nat.pow_le_pow_right (by decide) (by omega);simpa using this
  have HI:=aj hi;have hz1:2≤s.size:=by omega
  have hz2:s.size≤10:=by omega
  clear hi hr;go_enter func140,ntmps140;go_wp2;go_loop [6,7] (fun n i=>∃k acc:Nat,1≤k∧k≤s.size∧i=.int .i64 k∧n=.int .i64 acc∧Hid (eV bI s 1 k∧gj s acc k (s.size-k)=gj s 0 1 (s.size-1)∧(acc+1)*10^(s.size-k)≤1000000000)) (fun _ i=>s.size-(intOf i).toNat)
  case atStart=>exact⟨1,0,Nat.le_refl _,by omega,rfl,rfl,pZ _ _ _,rfl,by simpa using hp9⟩
  case round =>
   obtain⟨k,acc,hk0,hk,rfl,rfl,HL⟩:=hrel;by_cases hlt:k<s.size
   ·have hpos:1≤10^(s.size-k):=Nat.pow_pos (by decide);have hacc:(acc:Int)≤999999999:=by
     have h1:=Nat.le_trans (Nat.le_mul_of_pos_right (acc+1) hpos) HL.out.2.2;omega
    have eb:=fP hlt;by_cases hd:48≤aI s k∧aI s k≤57
    ·have h48:48≤(s[k].toNat:Int):=by omega
     have h57:(s[k].toNat:Int)≤57:=by omega
     have HN:Hid (eV bI s 1 (k+1)∧gj s (acc*10+(s[k].toNat-48)) (k+1) (s.size-(k+1))=gj s 0 1 (s.size-1)∧(acc*10+(s[k].toNat-48)+1)*10^(s.size-(k+1))≤1000000000):=by
      refine⟨oL HL.out.1 (by simp[bI,hd]),?_,?_⟩
      ·rw[←HL.out.2.1];obtain⟨m,hm⟩:∃m,s.size-k=m+1:=⟨s.size-k-1,by omega⟩;rw[hm,show s.size-(k+1)=m by omega];show _=gj s (acc*10+((aI s k).toNat-48)) (k+1) m;rw[eb];rfl
      ·obtain⟨m,hm⟩:∃m,s.size-k=m+1:=⟨s.size-k-1,by omega⟩;have h3:=HL.out.2.2;rw[hm,Nat.pow_succ,Nat.mul_comm (10^m) 10,←Nat.mul_assoc]at h3;rw[show s.size-(k+1)=m by omega];exact Nat.le_trans (Nat.mul_le_mul_right _ (by omega)) h3
     clear eb hd;go_wp2;refine⟨⟨k+1,acc*10+(s[k].toNat-48),by omega,by omega,by go_num,?_,HN⟩,by simp[intOf];omega⟩;congr 1;omega
    ·have HB:Hid (da s=false∧ia s=0):=mQ <| Bool.eq_false_iff.mpr fun h=>by
      have h3:=((fk s).mp h).2.2.1 k (by rw[HI.out];exact hk0) hlt;simp[bI]at h3;omega
     have hor:(s[k].toNat:Int)<48∨57<(s[k].toNat:Int):=by omega
     clear eb hd
     rcases hor with h48|h57
     all_goals
      go_wp2
      go_ret2
      rw[HB.out.1,HB.out.2]
      exact⟨rfl,rfl⟩
   ·have ek:k=s.size:=by omega
    have HE:Hid (eV bI s 1 s.size∧acc=gj s 0 1 (s.size-1)∧(acc:Int)≤999999999):=by
     have h1:=HL.out;rw[ek,Nat.sub_self]at h1;refine⟨h1.1,h1.2.1,?_⟩;have:=h1.2.2;omega
    have hacc:=HE.out.2.2;have hI:1<s.size:=by omega
    have eb:=fP hI;by_cases q:aI s 1=48∧(True)
    ·have HB:Hid (da s=false∧ia s=0):=mQ <| Bool.eq_false_iff.mpr fun h=>by
      have h4:=((fk s).mp h).2.2.2;rw[HI.out]at h4;exact h4 ⟨q.1,Or.inl rfl⟩
     have c48:((s[1].toNat:Int)==48)=true:=by simp;omega
     clear eb q ek
     go_wp2
     go_ret2
     rw[HB.out.1,HB.out.2]
     exact⟨rfl,rfl⟩
    ·have HB:Hid (da s=true∧ia s=-(acc:Int)):=by
      refine rb ((fk s).mpr ⟨by rw[HI.out];omega,by rw[HI.out];omega,by rw[HI.out];exact HE.out.1,by rw[HI.out];intro h;exact q ⟨h.1,trivial⟩⟩) ?_;unfold gz;rw[HI.out,HE.out.2.1];rfl
     have hor:((s[1].toNat:Int)==48)=false:=by
      have q1:aI s 1≠48:=fun h=>q ⟨h,trivial⟩
      simp;omega
     clear eb q ek
     all_goals
      go_wp2
      go_ret2
      rw[HB.out.1,HB.out.2]
      exact⟨rfl,rfl⟩
 ·have c45:((s[0].toNat:Int)==45)=false:=by simp;omega
  have hi:cE s=0:=by unfold cE;rw[if_neg q45]
  clear eb0 q45;by_cases hr:9<s.size
  ·have HB:Hid (da s=false∧ia s=0):=mQ <| Bool.eq_false_iff.mpr fun h=>by
    have h:=(fk s).mp h;have h1:=h.1;have h2:=h.2.1;rw[hi]at h1 h2;omega
   go_enter func140,ntmps140
   clear hi
   all_goals
    go_wp2
    go_ret2
    rw[HB.out.1,HB.out.2]
    exact⟨rfl,rfl⟩
  have hp9:1*10^(s.size-0)≤1000000000:=by
   have:10^(s.size-0)≤10^9:=Nat.pow_le_pow_right (by decide) (by omega);simpa using this
  have HI:=aj hi;have hz1:1≤s.size:=by omega
  have hz2:s.size≤9:=by omega
  clear hi hr;go_enter func140,ntmps140;go_wp2;go_loop [6,7] (fun n i=>∃k acc:Nat,0≤k∧k≤s.size∧i=.int .i64 k∧n=.int .i64 acc∧Hid (eV bI s 0 k∧gj s acc k (s.size-k)=gj s 0 0 (s.size-0)∧(acc+1)*10^(s.size-k)≤1000000000)) (fun _ i=>s.size-(intOf i).toNat)
  case atStart=>exact⟨0,0,Nat.le_refl _,by omega,rfl,rfl,pZ _ _ _,rfl,by simpa using hp9⟩
  case round =>
   obtain⟨k,acc,hk0,hk,rfl,rfl,HL⟩:=hrel;by_cases hlt:k<s.size
   ·have hpos:1≤10^(s.size-k):=Nat.pow_pos (by decide);have hacc:(acc:Int)≤999999999:=by
     have h1:=Nat.le_trans (Nat.le_mul_of_pos_right (acc+1) hpos) HL.out.2.2;omega
    have eb:=fP hlt;by_cases hd:48≤aI s k∧aI s k≤57
    ·have h48:48≤(s[k].toNat:Int):=by omega
     have h57:(s[k].toNat:Int)≤57:=by omega
     have HN:Hid (eV bI s 0 (k+1)∧gj s (acc*10+(s[k].toNat-48)) (k+1) (s.size-(k+1))=gj s 0 0 (s.size-0)∧(acc*10+(s[k].toNat-48)+1)*10^(s.size-(k+1))≤1000000000):=by
      refine⟨oL HL.out.1 (by simp[bI,hd]),?_,?_⟩
      ·rw[←HL.out.2.1];obtain⟨m,hm⟩:∃m,s.size-k=m+1:=⟨s.size-k-1,by omega⟩;rw[hm,show s.size-(k+1)=m by omega];show _=gj s (acc*10+((aI s k).toNat-48)) (k+1) m;rw[eb];rfl
      ·obtain⟨m,hm⟩:∃m,s.size-k=m+1:=⟨s.size-k-1,by omega⟩;have h3:=HL.out.2.2;rw[hm,Nat.pow_succ,Nat.mul_comm (10^m) 10,←Nat.mul_assoc]at h3;rw[show s.size-(k+1)=m by omega];exact Nat.le_trans (Nat.mul_le_mul_right _ (by omega)) h3
     clear eb hd;go_wp2;refine⟨⟨k+1,acc*10+(s[k].toNat-48),by omega,by omega,by go_num,?_,HN⟩,by simp[intOf];omega⟩;congr 1;omega
    ·have HB:Hid (da s=false∧ia s=0):=mQ <| Bool.eq_false_iff.mpr fun h=>by
      have h3:=((fk s).mp h).2.2.1 k (by rw[HI.out];exact hk0) hlt;simp[bI]at h3;omega
     have hor:(s[k].toNat:Int)<48∨57<(s[k].toNat:Int):=by omega
     clear eb hd
     rcases hor with h48|h57
     all_goals
      go_wp2
      go_ret2
      rw[HB.out.1,HB.out.2]
      exact⟨rfl,rfl⟩
   ·have ek:k=s.size:=by omega
    have HE:Hid (eV bI s 0 s.size∧acc=gj s 0 0 (s.size-0)∧(acc:Int)≤999999999):=by
     have h1:=HL.out;rw[ek,Nat.sub_self]at h1;refine⟨h1.1,h1.2.1,?_⟩;have:=h1.2.2;omega
    have hacc:=HE.out.2.2;have hI:0<s.size:=by omega
    have eb:=fP hI;by_cases q:aI s 0=48∧(1<s.size)
    ·have HB:Hid (da s=false∧ia s=0):=mQ <| Bool.eq_false_iff.mpr fun h=>by
      have h4:=((fk s).mp h).2.2.2;rw[HI.out]at h4;exact h4 ⟨q.1,Or.inr q.2⟩
     have c48:((s[0].toNat:Int)==48)=true:=by simp;omega
     have c1:(1:Int)<(s.size:Int):=by omega
     clear eb q ek
     go_wp2
     go_ret2
     rw[HB.out.1,HB.out.2]
     exact⟨rfl,rfl⟩
    ·have HB:Hid (da s=true∧ia s=(acc:Int)):=by
      refine rb ((fk s).mpr ⟨by rw[HI.out];omega,by rw[HI.out];omega,by rw[HI.out];exact HE.out.1,by rw[HI.out];intro h;exact q ⟨h.1,h.2.resolve_left (by omega)⟩⟩) ?_;unfold gz;rw[HI.out,HE.out.2.1];rfl
     have hor:((s[0].toNat:Int)==48)=false∨(((s[0].toNat:Int)==48)=true∧(s.size:Int)≤1):=by
      by_cases c:(s[0].toNat:Int)=48
      ·right;exact⟨by simp;omega,by omega⟩
      ·left;simp;omega
     clear eb q ek
     rcases hor with c48|⟨c48,c1⟩
     all_goals
      go_wp2
      go_ret2
      rw[HB.out.1,HB.out.2]
      exact⟨rfl,rfl⟩
end Go.Proofs.YtdojfommmpnbgaaGreatDoor
