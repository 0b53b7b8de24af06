import Derived.Test.YtdojfommmpnbgaaGreatDoorKAA
import Derived.WalkKit
import Derived.WalkSpells
import Derived.WalkLawsBesides
import Derived.Handy
import Derived.Below
import Derived.Lib.ParseIntBCases
set_option maxHeartbeats 1000000
namespace Go.Proofs.YtdojfommmpnbgaaGreatDoor
open Go.RowKit Go.Proofs.Tryz
def jg(c:Int):Bool:=(decide (97≤c)&&decide (c≤122))||(decide (48≤c)&&decide (c≤57))||decide (c=45)||decide (c=32)
def rl(s:ByteArray):Bool:=s.data.toList.all fun c=>jg (c.toNat:Int)
def fM(s:ByteArray):Bool:=rl s&&decide (s.size≤60)
theorem KN(s:ByteArray)(k:Nat)(h:k<s.size)(hb:jg (s[k].toNat:Int)=false):rl s=false:=by
 unfold rl;rw[List.all_eq_false];exact⟨s[k],by simp[ByteArray.getElem_eq_getElem_data],by simp[hb]⟩
theorem Cm(s:ByteArray)(h:∀k (h:k<s.size),jg (s[k].toNat:Int)=true):rl s=true:=by
 unfold rl;rw[List.all_eq_true];intro c hc;obtain⟨i,hi,rfl⟩:=List.getElem_of_mem hc;exact h i (by simpa using hi)
def rT(s:ByteArray)(k:Nat):Prop:=∀j (h:j<s.size),j<k→jg (s[j].toNat:Int)=true
theorem tv{s:ByteArray}{k:Nat}(h:k<s.size)(hp:rT s k)(hb:jg (s[k].toNat:Int)=true):rT s (k+1):=by
 intro j hj hlt;by_cases e:j=k
 ·subst e;exact hb
 ·exact hp j hj (by omega)
theorem xt(s:ByteArray)(k:Nat)(h:k<s.size)(hb:jg (s[k].toNat:Int)=false):fM s=false:=by
 unfold fM;rw[KN s k h hb];rfl
theorem Dn(c:Int)(w:World)(h0:0≤c)(h1:c≤255) :
  ah 204 #[.int .u8 c] w fun e w'=>e=.returned (.bool (jg c))∧w'=w:=by
 go_each [97≤c,c≤122,48≤c,c≤57,c=45,c=32]=>(
  go_enter func204,ntmps204
  go_wp2
  go_ret
  refine⟨?_,rfl⟩
  first|(simp[jg];done)|(simp[jg];omega)|(simp[jg];rw[Bool.eq_iff_iff];simp;omega))
theorem Hk(s:ByteArray)(w:World)(hs:s.size≤maxLen) :
  ah 176 #[.string s] w fun e w'=>e=.returned (.bool (fM s))∧w'=w:=by
 unfold maxLen at hs;go_enter func176,ntmps176;go_wp2;go_loop [3] (fun i=>∃k:Nat,k≤s.size∧i=.int .i64 k∧rT s k) (fun i=>s.size-(intOf i).toNat)
 case atStart=>exact⟨0,Nat.zero_le _,rfl,fun j _ hj=>absurd hj (Nat.not_lt_zero _)⟩
 case round =>
  obtain⟨k,hk,rfl,hp⟩:=hrel;by_cases hlt:k<s.size
  ·by_cases h45:(s[k].toNat:Int)=45
   ·go_wp2;exact⟨⟨k+1,by omega,by go_num,tv hlt hp (by rw[h45];rfl)⟩,by simp[intOf];omega⟩
   by_cases h32:(s[k].toNat:Int)=32
   ·go_wp2;exact⟨⟨k+1,by omega,by go_num,tv hlt hp (by rw[h32];rfl)⟩,by simp[intOf];omega⟩
   have b45:((s[k].toNat:Int) != 45)=true:=by simpa using h45
   have b32:((s[k].toNat:Int) != 32)=true:=by simpa using h32
   go_wp2
   all_goals first
    |(go_ret;refine⟨?_,rfl⟩;rw[xt s k hlt (by unfold jg;simp;omega)];rfl)
    |(refine⟨⟨k+1,by omega,by go_num,tv hlt hp ?_⟩,by simp[intOf];omega⟩;unfold jg;simp;omega)
  ·have hpl:fM s=decide ((s.size:Int)≤60):=by
    unfold fM;rw[Cm s fun j hj=>hp j hj (by omega)];simp;omega
   have HP:=aj hpl
   clear hpl
   go_wp2
   go_ret
   refine⟨?_,rfl⟩
   rw[HP.out]
   rfl
theorem Dp(s:ByteArray)(w:World)(hs:s.size≤maxLen) :
  ah 193 #[.string s] w fun e w'=>e=.returned (.bool (fM s))∧w'=w:=by
 unfold maxLen at hs;by_cases h60:(60:Int)<(s.size:Int)
 ·have hpl:fM s=false:=by unfold fM;rw[decide_eq_false (by omega)];simp
  have HP:=aj hpl;clear hpl;go_enter func193,ntmps193;go_wp2;go_ret;refine⟨?_,rfl⟩;rw[HP.out];rfl
 go_enter func193,ntmps193;go_wp2;go_loop [9] (fun i=>∃k:Nat,k≤s.size∧i=.int .i64 k∧rT s k) (fun i=>s.size-(intOf i).toNat)
 case atStart=>exact⟨0,Nat.zero_le _,rfl,fun j _ hj=>absurd hj (Nat.not_lt_zero _)⟩
 case round =>
  obtain⟨k,hk,rfl,hp⟩:=hrel;by_cases hlt:k<s.size
  ·have hub:(s[k].toNat:Int)≤255:=by have:=s[k].toNat_lt;omega
   cases hb:jg (s[k].toNat:Int)
   ·have HB:Hid (jg (s[k].toNat:Int)=_):=hb;clear hb;go_wp2_with fail;refine(Dn _ _ (by omega) hub).mono ?_;rintro e w' ⟨rfl,rfl⟩;rw[HB.out];go_wp2;go_ret;refine⟨?_,rfl⟩;rw[xt s k hlt HB.out];rfl
   ·have HB:Hid (jg (s[k].toNat:Int)=_):=hb;clear hb;go_wp2_with fail;refine(Dn _ _ (by omega) hub).mono ?_;rintro e w' ⟨rfl,rfl⟩;rw[HB.out];go_wp2;exact⟨⟨k+1,by omega,by go_num,tv hlt hp HB.out⟩,by simp[intOf];omega⟩
  ·have hpl:fM s=true:=by
    unfold fM;rw[Cm s fun j hj=>hp j hj (by omega)];simp;omega
   have HP:=aj hpl
   clear hpl
   go_wp2
   go_ret
   refine⟨?_,rfl⟩
   rw[HP.out]
   rfl
def aI(s:ByteArray)(k:Nat):Int:=if h:k<s.size then(s[k].toNat:Int)else 0
theorem fP{s:ByteArray}{k:Nat}(h:k<s.size):aI s k=(s[k].toNat:Int):=by simp[aI,h]
theorem Eh(s:ByteArray)(k:Nat):0≤aI s k:=by unfold aI;split<;>omega
theorem Eg(s:ByteArray)(k:Nat):aI s k≤255:=by
 unfold aI;split
 ·rename_i h;have:=s[k].toNat_lt;omega
 ·omega
def ed(c:Int):Bool:=decide (97≤c)&&decide (c≤122)
def bI(c:Int):Bool:=decide (48≤c)&&decide (c≤57)
def ir(c:Int):Bool:=ed c||bI c
def eV(f:Int→Bool)(s:ByteArray)(i k:Nat):Prop:=∀j,i≤j→j<k→f (aI s j)=true
def rX(f:Int→Bool)(s:ByteArray)(i k:Nat):Bool:=(List.range k).all fun j=>decide (j<i)||f (aI s j)
theorem uh(f:Int→Bool)(s:ByteArray)(i k:Nat):rX f s i k=true↔eV f s i k:=by
 unfold rX eV;rw[List.all_eq_true];constructor
 ·intro h j a b;have:=h j (List.mem_range.mpr b);simp at this;exact this.resolve_left (by omega)
 ·intro h j hj;by_cases c:j<i
  ·simp[c]
  ·simp[h j (by omega) (List.mem_range.mp hj)]
theorem pZ(f:Int→Bool)(s:ByteArray)(i:Nat):eV f s i i:=fun j a b=>absurd b (by omega)
theorem oL{f:Int→Bool}{s:ByteArray}{i k:Nat}(h:eV f s i k)(hb:f (aI s k)=true):eV f s i (k+1):=by
 intro j a b;by_cases e:j=k
 ·subst e;exact hb
 ·exact h j a (by omega)
def kO(s:ByteArray):Prop:=1≤s.size∧s.size≤8∧ed (aI s 0)=true∧eV ir s 0 s.size
def cE(s:ByteArray):Nat:=if aI s 0=45 then 1 else 0
def kp(s:ByteArray):Prop:=cE s+1≤s.size∧s.size≤cE s+9∧eV bI s (cE s) s.size∧¬(aI s (cE s)=48∧(cE s=1∨1<s.size))
def lX(s:ByteArray):Prop:=1<s.size∧aI s 0=39∧aI s (s.size-1)=39∧fM (s.extract 1 (s.size-1))=true
def pf(s:ByteArray):Prop:=s.size=1∧(aI s 0=40∨aI s 0=41)
def qN(s:ByteArray):Prop:=s.size=1∧(aI s 0=43∨aI s 0=45∨aI s 0=42∨aI s 0=60∨aI s 0=61∨aI s 0=38)
def bt(s:ByteArray):Bool:=decide (1≤s.size)&&decide (s.size≤8)&&ed (aI s 0)&&rX ir s 0 s.size
def da(s:ByteArray):Bool:=decide (cE s+1≤s.size)&&decide (s.size≤cE s+9)&&rX bI s (cE s) s.size&&!decide (aI s (cE s)=48∧(cE s=1∨1<s.size))
def fY(s:ByteArray):Bool:=decide (1<s.size)&&decide (aI s 0=39)&&decide (aI s (s.size-1)=39)&&fM (s.extract 1 (s.size-1))
def wF(s:ByteArray):Bool:=decide (s.size=1∧(aI s 0=40∨aI s 0=41))
def vV(s:ByteArray):Bool:=decide (s.size=1∧(aI s 0=43∨aI s 0=45∨aI s 0=42∨aI s 0=60∨aI s 0=61∨aI s 0=38))
theorem iY(s:ByteArray):bt s=true↔kO s:=by
 unfold bt kO;simp only[Bool.and_eq_true,decide_eq_true_eq,uh,and_assoc]
theorem fk(s:ByteArray):da s=true↔kp s:=by
 unfold da kp;simp only[Bool.and_eq_true,Bool.not_eq_true',decide_eq_false_iff_not,decide_eq_true_eq,uh,and_assoc]
theorem jI(s:ByteArray):fY s=true↔lX s:=by
 unfold fY lX;simp only[Bool.and_eq_true,decide_eq_true_eq,and_assoc]
theorem wG(s:ByteArray):wF s=true↔pf s:=by unfold wF pf;exact decide_eq_true_iff
theorem Bt(s:ByteArray):vV s=true↔qN s:=by unfold vV qN;exact decide_eq_true_iff
def bn(s:ByteArray):Int:=if bt s then 2 else if da s then 3 else if fY s then 4 else if wF s then 1 else if vV s then 5 else 0
def bT(s:ByteArray):Bool:=decide (bn s≠0)
theorem FT(s:ByteArray):cE s≤1:=by unfold cE;split<;>omega
theorem l8{s:ByteArray}(h:kp s):bI (aI s 0)=true∨(aI s 0=45∧2≤s.size∧bI (aI s 1)=true∧aI s 1≠48):=by
 obtain⟨h1,h2,h3,h4⟩:=h;by_cases e:aI s 0=45
 ·right;have e1:cE s=1:=by simp[cE,e]
  rw[e1]at h1 h3 h4;exact⟨e,h1,h3 1 (by omega) (by omega),fun h=>h4 ⟨h,Or.inl rfl⟩⟩
 ·left;have e1:cE s=0:=by simp[cE,e]
  rw[e1]at h1 h3;exact h3 0 (by omega) (by omega)
theorem qS{s:ByteArray}(h:kO s):bn s=2:=by simp[bn,iY,h]
theorem mJ{s:ByteArray}(h:kp s):bn s=3:=by
 have hn:¬kO s:=fun hn=>by
  have h0:=hn.2.2.1;rcases l8 h with hd|hd
  ·simp[ed,bI]at h0 hd;omega
  ·simp[ed]at h0;omega
 simp[bn,iY,fk,h,hn]
theorem nR{s:ByteArray}(h:lX s):bn s=4:=by
 have hq:=h.2.1;have hn:¬kO s:=fun hn=>by have h0:=hn.2.2.1;simp[ed]at h0;omega
 have hm:¬kp s:=fun hn=>by
  rcases l8 hn with hd|hd
  ·simp[bI]at hd;omega
  ·omega
 simp[bn,iY,fk,jI,h,hn,hm]
theorem vB{s:ByteArray}(h:pf s):bn s=1:=by
 have hq:=h.2;have hn:¬kO s:=fun hn=>by have h0:=hn.2.2.1;simp[ed]at h0;omega
 have hm:¬kp s:=fun hn=>by
  rcases l8 hn with hd|hd
  ·simp[bI]at hd;omega
  ·omega
 have ho:¬lX s:=fun ho=>by have:=ho.1;have:=h.1;omega
 simp[bn,iY,fk,jI,wG,h,hn,hm,ho]
theorem vA{s:ByteArray}(h:qN s):bn s=5:=by
 have hq:=h.2;have hn:¬kO s:=fun hn=>by have h0:=hn.2.2.1;simp[ed]at h0;omega
 have hm:¬kp s:=fun hn=>by
  rcases l8 hn with hd|hd
  ·simp[bI]at hd;omega
  ·have:=h.1;omega
 have ho:¬lX s:=fun ho=>by have:=ho.1;have:=h.1;omega
 have hp:¬pf s:=fun hp=>by have:=hp.2;omega
 simp[bn,iY,fk,jI,wG,Bt,h,hn,hm,ho,hp]
theorem pk{s:ByteArray}(h1:¬kO s)(h2:¬kp s)(h3:¬lX s)(h4:¬pf s)(h5:¬qN s):bn s=0:=by simp[bn,iY,fk,jI,wG,Bt,h1,h2,h3,h4,h5]
theorem I8(s:ByteArray):kO s↔bn s=2:=by
 constructor
 ·exact qS
 ·intro h;unfold bn at h;split at h
  ·rename_i hh;exact(iY s).mp hh
  ·repeat (split at h;· omega)
   omega
theorem BS(s:ByteArray):kp s↔bn s=3:=by
 constructor
 ·exact mJ
 ·intro h;unfold bn at h;split at h
  ·omega
  split at h
  ·rename_i hh;exact(fk s).mp hh
  ·repeat (split at h;· omega)
   omega
theorem Lc(s:ByteArray):lX s↔bn s=4:=by
 constructor
 ·exact nR
 ·intro h;unfold bn at h;split at h
  ·omega
  split at h
  ·omega
  split at h
  ·rename_i hh;exact(jI s).mp hh
  ·repeat (split at h;· omega)
   omega
def gj(s:ByteArray):Nat→Nat→Nat→Nat
 |acc,_,0=>acc
 |acc,k,m+1=>gj s (acc*10+((aI s k).toNat-48)) (k+1) m
def gz(s:ByteArray):Int:=if cE s=1 then -(gj s 0 1 (s.size-1):Int)else(gj s 0 0 s.size:Int)
theorem ug(s:ByteArray):∀m acc k,eV bI s k (k+m)→gj s acc k m<(acc+1)*10^m
 |0,acc,k,_=>by show acc<(acc+1)*1;omega
 |m+1,acc,k,h=>by
  have h0:=h k (by omega) (by omega);have hb:(aI s k).toNat-48≤9:=by simp[bI]at h0;omega
  have ih:=ug s m (acc*10+((aI s k).toNat-48)) (k+1) (fun j a b=>h j (by omega) (by omega));show gj s (acc*10+((aI s k).toNat-48)) (k+1) m<_;refine Nat.lt_of_lt_of_le ih ?_;rw[Nat.pow_succ,Nat.mul_comm (10^m) 10,←Nat.mul_assoc];exact Nat.mul_le_mul_right _ (by omega)
theorem wH(s:ByteArray)(M:Nat):∀m acc k,k+m=s.size→eV bI s k s.size→(acc+1)*10^m≤1000000000→1000000000≤M →
  Go.Lib.parseUintM M acc (s.data.toList.drop k)=.ok (gj s acc k m)
 |0,acc,k,hk,_,_,_=>by
  have:s.data.toList.drop k=[]:=List.drop_of_length_le (by simp;omega);rw[this];rfl
 |m+1,acc,k,hk,h,hl,hM=>by
  have hlt:k<s.size:=by omega
  have h0:=h k (by omega) hlt;have e:s.data.toList.drop k=s[k]::s.data.toList.drop (k+1):=by
   rw[List.drop_eq_getElem_cons (by simpa using hlt)];congr 1
  have eb:=fP hlt;have hd:48≤s[k].toNat∧s[k].toNat≤57:=by simp[bI]at h0;omega
  have e10:10^(m+1)=10*10^m:=by rw[Nat.pow_succ,Nat.mul_comm]
  have hp:1≤10^m:=Nat.pow_pos (by decide);have hq:acc*10+(s[k].toNat-48)+1≤(acc+1)*10:=by omega
  have hr:(acc*10+(s[k].toNat-48)+1)*10^m≤1000000000:=by
   refine Nat.le_trans (Nat.mul_le_mul_right _ hq) ?_;rw[Nat.mul_assoc,←e10];exact hl
  have hs:acc*10+(s[k].toNat-48)+1≤1000000000:=Nat.le_trans (Nat.le_mul_of_pos_right _ hp) hr;rw[e,Go.Lib.parseUintM,if_pos hd,if_neg (by omega),if_neg (by omega)];rw[wH s M m _ (k+1) (by omega) (fun j a b=>h j (by omega) b) hr hM];show _=Go.Lib.NumEnd.ok (gj s (acc*10+((aI s k).toNat-48)) (k+1) m);rw[eb];rfl
theorem Ky{s:ByteArray}(h:kp s):Go.Lib.parseIntB 64 s.data.toList=.ok (gz s)∧-999999999≤gz s∧gz s≤999999999:=by
 have hh:=l8 h;obtain⟨h1,h2,h3,h4⟩:=h;have h0:0<s.size:=by omega
 have e0:s.data.toList=s[0]::s.data.toList.drop 1:=by
  have:=List.drop_eq_getElem_cons (l:=s.data.toList) (i:=0) (by simpa using h0);rw[List.drop_zero]at this;rw[this];rfl
 have eb:=fP h0;have e64:(2:Nat)^64-1=18446744073709551615:=by decide
 have e63:(2:Nat)^(64-1)=9223372036854775808:=by decide
 by_cases e:aI s 0=45
 ·have e1:cE s=1:=by simp[cE,e]
  rw[e1]at h1 h2 h3;have c45:s[0]=45:=by
   apply UInt8.toNat_inj.mp;show s[0].toNat=45;omega
  have hne:s.data.toList.drop 1≠[]:=by
   intro hc;have:=congrArg List.length hc;simp at this;omega
  have hp:10^(s.size-1)≤1000000000:=by
   have:10^(s.size-1)≤10^9:=Nat.pow_le_pow_right (by decide) (by omega);simpa using this
  have hlt:=ug s (s.size-1) 0 1 (by rw[show 1+(s.size-1)=s.size by omega];exact h3);have hpa:=wH s 18446744073709551615 (s.size-1) 0 1 (by omega) h3 (by simpa using hp) (by decide);have er:gz s=-(gj s 0 1 (s.size-1):Int):=by simp[gz,e1]
  rw[er];refine⟨?_,by omega,by omega⟩;rw[e0,c45,Go.Lib.parseIntB_minus,Go.Lib.parseUintB,if_neg hne,e64,hpa,e63];simp only[Go.Lib.signedC];rw[if_neg (by omega)]
 ·have e1:cE s=0:=by simp[cE,e]
  rw[e1]at h1 h2 h3;have hd:bI (aI s 0)=true:=h3 0 (by omega) (by omega);have c43:s[0].toNat≠43:=by simp[bI]at hd;omega
  have c45:s[0].toNat≠45:=by simp[bI]at hd;omega
  have hp:10^s.size≤1000000000:=by
   have:10^s.size≤10^9:=Nat.pow_le_pow_right (by decide) (by omega);simpa using this
  have hlt:=ug s s.size 0 0 (by rw[Nat.zero_add];exact h3);have hpa:=wH s 18446744073709551615 s.size 0 0 (by omega) h3 (by simpa using hp) (by decide);rw[List.drop_zero,e0]at hpa;have er:gz s=(gj s 0 0 s.size:Int):=by simp[gz,e1]
  rw[er];refine⟨?_,by omega,by omega⟩;rw[e0,Go.Lib.parseIntB_plain 64 _ _ c43 c45,Go.Lib.parseUintB,if_neg (by simp),e64,hpa,e63];simp only[Go.Lib.signlessC];rw[if_neg (by omega)]
theorem kR(c:Int)(w:World) :
  ah 190 #[.int .u8 c] w fun e w'=>e=.returned (.bool (ed c))∧w'=w:=by
 unfold ed;by_cases h1:97≤c<;>by_cases h2:c≤122
 all_goals
  go_enter func190,ntmps190
  go_wp2
  go_ret
  simp[h1,h2]
theorem kI(c:Int)(w:World) :
  ah 191 #[.int .u8 c] w fun e w'=>e=.returned (.bool (bI c))∧w'=w:=by
 unfold bI;by_cases h1:48≤c<;>by_cases h2:c≤57
 all_goals
  go_enter func191,ntmps191
  go_wp2
  go_ret
  simp[h1,h2]
def oN(c:Int):Int:=if c=40∨c=41 then 1 else if c=43∨c=45∨c=42∨c=60∨c=61∨c=38 then 5 else 0
theorem Ei(c:Int)(w:World) :
  ah 192 #[.int .u8 c] w fun e w'=>e=.returned (.int .i64 (oN c))∧w'=w:=by
 by_cases h1:c=40
 ·subst h1;go_enter func192,ntmps192;go_wp2;go_ret;exact⟨rfl,rfl⟩
 by_cases h2:c=41
 ·subst h2;go_enter func192,ntmps192;go_wp2;go_ret;exact⟨rfl,rfl⟩
 by_cases h3:c=43
 ·subst h3;go_enter func192,ntmps192;go_wp2;go_ret;exact⟨rfl,rfl⟩
 by_cases h4:c=45
 ·subst h4;go_enter func192,ntmps192;go_wp2;go_ret;exact⟨rfl,rfl⟩
 by_cases h5:c=42
 ·subst h5;go_enter func192,ntmps192;go_wp2;go_ret;exact⟨rfl,rfl⟩
 by_cases h6:c=60
 ·subst h6;go_enter func192,ntmps192;go_wp2;go_ret;exact⟨rfl,rfl⟩
 by_cases h7:c=61
 ·subst h7;go_enter func192,ntmps192;go_wp2;go_ret;exact⟨rfl,rfl⟩
 by_cases h8:c=38
 ·subst h8;go_enter func192,ntmps192;go_wp2;go_ret;exact⟨rfl,rfl⟩
 have HK:=aj (by simp[oN,h1,h2,h3,h4,h5,h6,h7,h8]:oN c=0);go_enter func192,ntmps192;go_wp2;go_ret;exact⟨by rw[HK.out];rfl,rfl⟩
theorem vM(x a b:Int)(w:World) :
  ah 93 #[.int .i64 x,.int .i64 a,.int .i64 b] w fun e w'=>e=.returned (.bool (decide (a≤x)&&decide (x≤b)))∧w'=w:=by
 by_cases h1:a≤x<;>by_cases h2:x≤b
 all_goals
  go_enter func93,ntmps93
  go_wp2
  go_ret
  simp[h1,h2]
end Go.Proofs.YtdojfommmpnbgaaGreatDoor
