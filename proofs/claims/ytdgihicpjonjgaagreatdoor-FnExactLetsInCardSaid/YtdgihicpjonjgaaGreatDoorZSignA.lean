import Derived.Test.YtdgihicpjonjgaaGreatDoorRows
import Derived.WalkKit
import Derived.WalkSpells
import Derived.WalkLawsBesides
import Derived.Handy
import Derived.Below
import Derived.Lib.ParseIntBCases
namespace Go.Proofs.YtdgihicpjonjgaaGreatDoor
open Go.RowKit
def byteB (c:Int):Bool:=(decide (97≤c) && decide (c≤122)) || (decide (48≤c) && decide (c≤57)) || decide (c=45) || decide (c=32)
def plainB (s:ByteArray):Bool:=s.data.toList.all fun c=>byteB (c.toNat:Int)
def textB (s:ByteArray):Bool:=plainB s && decide (s.size≤60)
theorem plain_no (s:ByteArray) (k:Nat) (h:k < s.size) (hb:byteB (s[k].toNat:Int)=false):plainB s=false:=by
 unfold plainB
 rw [List.all_eq_false]
 exact ⟨s[k],by simp [ByteArray.getElem_eq_getElem_data],by simp [hb]⟩
theorem plain_yes (s:ByteArray) (h:∀ k (h:k < s.size),byteB (s[k].toNat:Int)=true):plainB s=true:=by
 unfold plainB
 rw [List.all_eq_true]
 intro c hc
 obtain ⟨i,hi,rfl⟩:=List.getElem_of_mem hc
 exact h i (by simpa using hi)
def PlainTo (s:ByteArray) (k:Nat):Prop:=∀ j (h:j < s.size),j < k→byteB (s[j].toNat:Int)=true
theorem plainTo_succ {s:ByteArray} {k:Nat} (h:k < s.size) (hp:PlainTo s k) (hb:byteB (s[k].toNat:Int)=true):PlainTo s (k+1):=by
 intro j hj hlt
 by_cases e:j=k
 ·subst e;exact hb
 ·exact hp j hj (by omega)
theorem text_no (s:ByteArray) (k:Nat) (h:k < s.size) (hb:byteB (s[k].toNat:Int)=false):textB s=false:=by
 unfold textB;rw [plain_no s k h hb];rfl
set_option maxHeartbeats 400000 in
theorem textByte_any (c:Int) (w:World) (h0:0≤c) (h1:c≤255) :
  Calls Tryz.prog 154 #[.int .u8 c] w fun e w'=>e=.returned (.bool (byteB c))∧w'=w:=by
 go_each [97≤c,c≤122,48≤c,c≤57,c=45,c=32]=>(
  go_enter Tryz.func154,Tryz.ntmps154
  go_wp2
  go_ret
  refine ⟨?_,rfl⟩
  first | (simp [byteB];done) | (simp [byteB];omega) | (simp [byteB];rw [Bool.eq_iff_iff];simp;omega))
set_option maxHeartbeats 400000 in
theorem l1Plain_any (s:ByteArray) (w:World) (hs:s.size≤maxLen) :
  Calls Tryz.prog 126 #[.string s] w fun e w'=>e=.returned (.bool (textB s))∧w'=w:=by
 unfold maxLen at hs
 go_enter Tryz.func126,Tryz.ntmps126
 go_wp2
 go_loop [3] (fun i=>∃ k:Nat,k≤s.size∧i=.int .i64 k∧PlainTo s k) (fun i=>s.size - (intOf i).toNat)
 case atStart=>exact ⟨0,Nat.zero_le _,rfl,fun j _ hj=>absurd hj (Nat.not_lt_zero _)⟩
 case round =>
  obtain ⟨k,hk,rfl,hp⟩:=hrel
  by_cases hlt:k < s.size
  ·by_cases h45:(s[k].toNat:Int)=45
   ·go_wp2
    exact ⟨⟨k+1,by omega,by go_num,plainTo_succ hlt hp (by rw [h45];rfl)⟩,by simp [intOf];omega⟩
   by_cases h32:(s[k].toNat:Int)=32
   ·go_wp2
    exact ⟨⟨k+1,by omega,by go_num,plainTo_succ hlt hp (by rw [h32];rfl)⟩,by simp [intOf];omega⟩
   have b45:((s[k].toNat:Int) != 45)=true:=by simpa using h45
   have b32:((s[k].toNat:Int) != 32)=true:=by simpa using h32
   go_wp2
   all_goals first
    | (go_ret;refine ⟨?_,rfl⟩;rw [text_no s k hlt (by unfold byteB;simp;omega)];rfl)
    | (refine ⟨⟨k+1,by omega,by go_num,plainTo_succ hlt hp ?_⟩,by simp [intOf];omega⟩;unfold byteB;simp;omega)
  ·have hpl:textB s=decide ((s.size:Int)≤60):=by
    unfold textB;rw [plain_yes s fun j hj=>hp j hj (by omega)];simp;omega
   have HP:Hid (textB s=decide ((s.size:Int)≤60)):=hpl
   clear hpl
   go_wp2
   go_ret
   refine ⟨?_,rfl⟩
   rw [HP.out]
   rfl
set_option maxHeartbeats 400000 in
theorem textOk_any (s:ByteArray) (w:World) (hs:s.size≤maxLen) :
  Calls Tryz.prog 150 #[.string s] w fun e w'=>e=.returned (.bool (textB s))∧w'=w:=by
 unfold maxLen at hs
 by_cases h60:(60:Int) < (s.size:Int)
 ·have hpl:textB s=false:=by unfold textB;rw [decide_eq_false (by omega)];simp
  have HP:Hid (textB s=false):=hpl
  clear hpl
  go_enter Tryz.func150,Tryz.ntmps150
  go_wp2
  go_ret
  refine ⟨?_,rfl⟩
  rw [HP.out]
  rfl
 go_enter Tryz.func150,Tryz.ntmps150
 go_wp2
 go_loop [9] (fun i=>∃ k:Nat,k≤s.size∧i=.int .i64 k∧PlainTo s k) (fun i=>s.size - (intOf i).toNat)
 case atStart=>exact ⟨0,Nat.zero_le _,rfl,fun j _ hj=>absurd hj (Nat.not_lt_zero _)⟩
 case round =>
  obtain ⟨k,hk,rfl,hp⟩:=hrel
  by_cases hlt:k < s.size
  ·have hub:(s[k].toNat:Int)≤255:=by have:=s[k].toNat_lt;omega
   cases hb:byteB (s[k].toNat:Int)
   ·have HB:Hid (byteB (s[k].toNat:Int)=_):=hb
    clear hb
    go_wp2_with fail
    refine (textByte_any _ _ (by omega) hub).mono ?_
    rintro e w' ⟨rfl,rfl⟩
    rw [HB.out]
    go_wp2
    go_ret
    refine ⟨?_,rfl⟩
    rw [text_no s k hlt HB.out]
    rfl
   ·have HB:Hid (byteB (s[k].toNat:Int)=_):=hb
    clear hb
    go_wp2_with fail
    refine (textByte_any _ _ (by omega) hub).mono ?_
    rintro e w' ⟨rfl,rfl⟩
    rw [HB.out]
    go_wp2
    exact ⟨⟨k+1,by omega,by go_num,plainTo_succ hlt hp HB.out⟩,by simp [intOf];omega⟩
  ·have hpl:textB s=true:=by
    unfold textB;rw [plain_yes s fun j hj=>hp j hj (by omega)];simp;omega
   have HP:Hid (textB s=true):=hpl
   clear hpl
   go_wp2
   go_ret
   refine ⟨?_,rfl⟩
   rw [HP.out]
   rfl
end Go.Proofs.YtdgihicpjonjgaaGreatDoor
namespace Go.Proofs.YtdgihicpjonjgaaGreatDoor
open Go.RowKit
def byt (s:ByteArray) (k:Nat):Int:=if h:k < s.size then (s[k].toNat:Int) else 0
theorem byt_eq {s:ByteArray} {k:Nat} (h:k < s.size):byt s k=(s[k].toNat:Int):=by simp [byt,h]
theorem byt_lo (s:ByteArray) (k:Nat):0≤byt s k:=by unfold byt;split <;> omega
theorem byt_hi (s:ByteArray) (k:Nat):byt s k≤255:=by
 unfold byt
 split
 ·rename_i h;have:=s[k].toNat_lt;omega
 ·omega
def letB (c:Int):Bool:=decide (97≤c) && decide (c≤122)
def digB (c:Int):Bool:=decide (48≤c) && decide (c≤57)
def alnB (c:Int):Bool:=letB c || digB c
def AllIn (f:Int→Bool) (s:ByteArray) (i k:Nat):Prop:=∀ j,i≤j→j < k→f (byt s j)=true
def allB (f:Int→Bool) (s:ByteArray) (i k:Nat):Bool:=(List.range k).all fun j=>decide (j < i) || f (byt s j)
theorem allB_iff (f:Int→Bool) (s:ByteArray) (i k:Nat):allB f s i k=true↔AllIn f s i k:=by
 unfold allB AllIn
 rw [List.all_eq_true]
 constructor
 ·intro h j a b
  have:=h j (List.mem_range.mpr b)
  simp at this
  exact this.resolve_left (by omega)
 ·intro h j hj
  by_cases c:j < i
  ·simp [c]
  ·simp [h j (by omega) (List.mem_range.mp hj)]
theorem allIn_nil (f:Int→Bool) (s:ByteArray) (i:Nat):AllIn f s i i:=fun j a b=>absurd b (by omega)
theorem allIn_succ {f:Int→Bool} {s:ByteArray} {i k:Nat} (h:AllIn f s i k) (hb:f (byt s k)=true):AllIn f s i (k+1):=by
 intro j a b
 by_cases e:j=k
 ·subst e;exact hb
 ·exact h j a (by omega)
def isName (s:ByteArray):Prop:=1≤s.size∧s.size≤8∧letB (byt s 0)=true∧AllIn alnB s 0 s.size
def fromD (s:ByteArray):Nat:=if byt s 0=45 then 1 else 0
def isNumer (s:ByteArray):Prop:=fromD s+1≤s.size∧s.size≤fromD s+9∧AllIn digB s (fromD s) s.size∧¬ (byt s (fromD s)=48∧(fromD s=1∨1 < s.size))
def isQuot (s:ByteArray):Prop:=1 < s.size∧byt s 0=39∧byt s (s.size - 1)=39∧textB (s.extract 1 (s.size - 1))=true
def isParen (s:ByteArray):Prop:=s.size=1∧(byt s 0=40∨byt s 0=41)
def isMark (s:ByteArray):Prop:=s.size=1∧(byt s 0=43∨byt s 0=45∨byt s 0=42∨byt s 0=60∨byt s 0=61∨byt s 0=38)
def nameB (s:ByteArray):Bool:=decide (1≤s.size) && decide (s.size≤8) && letB (byt s 0) && allB alnB s 0 s.size
def numerB (s:ByteArray):Bool:=decide (fromD s+1≤s.size) && decide (s.size≤fromD s+9) && allB digB s (fromD s) s.size && !decide (byt s (fromD s)=48∧(fromD s=1∨1 < s.size))
def quotB (s:ByteArray):Bool:=decide (1 < s.size) && decide (byt s 0=39) && decide (byt s (s.size - 1)=39) && textB (s.extract 1 (s.size - 1))
def parenB (s:ByteArray):Bool:=decide (s.size=1∧(byt s 0=40∨byt s 0=41))
def markB (s:ByteArray):Bool:=decide (s.size=1∧(byt s 0=43∨byt s 0=45∨byt s 0=42∨byt s 0=60∨byt s 0=61∨byt s 0=38))
theorem nameB_iff (s:ByteArray):nameB s=true↔isName s:=by
 unfold nameB isName;simp only [Bool.and_eq_true,decide_eq_true_eq,allB_iff,and_assoc]
theorem numerB_iff (s:ByteArray):numerB s=true↔isNumer s:=by
 unfold numerB isNumer;simp only [Bool.and_eq_true,Bool.not_eq_true',decide_eq_false_iff_not,decide_eq_true_eq,allB_iff,and_assoc]
theorem quotB_iff (s:ByteArray):quotB s=true↔isQuot s:=by
 unfold quotB isQuot;simp only [Bool.and_eq_true,decide_eq_true_eq,and_assoc]
theorem parenB_iff (s:ByteArray):parenB s=true↔isParen s:=by unfold parenB isParen;exact decide_eq_true_iff
theorem markB_iff (s:ByteArray):markB s=true↔isMark s:=by unfold markB isMark;exact decide_eq_true_iff
def kindN (s:ByteArray):Int:=if nameB s then 2 else if numerB s then 3 else if quotB s then 4 else if parenB s then 1 else if markB s then 5 else 0
def signB (s:ByteArray):Bool:=decide (kindN s≠0)
theorem fromD_le (s:ByteArray):fromD s≤1:=by unfold fromD;split <;> omega
theorem numer_head {s:ByteArray} (h:isNumer s):digB (byt s 0)=true∨(byt s 0=45∧2≤s.size∧digB (byt s 1)=true∧byt s 1≠48):=by
 obtain ⟨h1,h2,h3,h4⟩:=h
 by_cases e:byt s 0=45
 ·right
  have e1:fromD s=1:=by simp [fromD,e]
  rw [e1] at h1 h3 h4
  exact ⟨e,h1,h3 1 (by omega) (by omega),fun h=>h4 ⟨h,Or.inl rfl⟩⟩
 ·left
  have e1:fromD s=0:=by simp [fromD,e]
  rw [e1] at h1 h3
  exact h3 0 (by omega) (by omega)
theorem kind_name {s:ByteArray} (h:isName s):kindN s=2:=by simp [kindN,nameB_iff,h]
theorem kind_numer {s:ByteArray} (h:isNumer s):kindN s=3:=by
 have hn:¬ isName s:=fun hn=>by
  have h0:=hn.2.2.1
  rcases numer_head h with hd | hd
  ·simp [letB,digB] at h0 hd;omega
  ·simp [letB] at h0;omega
 simp [kindN,nameB_iff,numerB_iff,h,hn]
theorem kind_quot {s:ByteArray} (h:isQuot s):kindN s=4:=by
 have hq:=h.2.1
 have hn:¬ isName s:=fun hn=>by have h0:=hn.2.2.1;simp [letB] at h0;omega
 have hm:¬ isNumer s:=fun hn=>by
  rcases numer_head hn with hd | hd
  ·simp [digB] at hd;omega
  ·omega
 simp [kindN,nameB_iff,numerB_iff,quotB_iff,h,hn,hm]
theorem kind_paren {s:ByteArray} (h:isParen s):kindN s=1:=by
 have hq:=h.2
 have hn:¬ isName s:=fun hn=>by have h0:=hn.2.2.1;simp [letB] at h0;omega
 have hm:¬ isNumer s:=fun hn=>by
  rcases numer_head hn with hd | hd
  ·simp [digB] at hd;omega
  ·omega
 have ho:¬ isQuot s:=fun ho=>by have:=ho.1;have:=h.1;omega
 simp [kindN,nameB_iff,numerB_iff,quotB_iff,parenB_iff,h,hn,hm,ho]
theorem kind_mark {s:ByteArray} (h:isMark s):kindN s=5:=by
 have hq:=h.2
 have hn:¬ isName s:=fun hn=>by have h0:=hn.2.2.1;simp [letB] at h0;omega
 have hm:¬ isNumer s:=fun hn=>by
  rcases numer_head hn with hd | hd
  ·simp [digB] at hd;omega
  ·have:=h.1;omega
 have ho:¬ isQuot s:=fun ho=>by have:=ho.1;have:=h.1;omega
 have hp:¬ isParen s:=fun hp=>by have:=hp.2;omega
 simp [kindN,nameB_iff,numerB_iff,quotB_iff,parenB_iff,markB_iff,h,hn,hm,ho,hp]
theorem kind_none {s:ByteArray} (h1:¬ isName s) (h2:¬ isNumer s) (h3:¬ isQuot s) (h4:¬ isParen s) (h5:¬ isMark s):kindN s=0:=by simp [kindN,nameB_iff,numerB_iff,quotB_iff,parenB_iff,markB_iff,h1,h2,h3,h4,h5]
theorem name_iff (s:ByteArray):isName s↔kindN s=2:=by
 constructor
 ·exact kind_name
 ·intro h
  unfold kindN at h
  split at h
  ·rename_i hh;exact (nameB_iff s).mp hh
  ·repeat (split at h;· omega)
   omega
theorem numer_iff (s:ByteArray):isNumer s↔kindN s=3:=by
 constructor
 ·exact kind_numer
 ·intro h
  unfold kindN at h
  split at h
  ·omega
  split at h
  ·rename_i hh;exact (numerB_iff s).mp hh
  ·repeat (split at h;· omega)
   omega
theorem quot_iff (s:ByteArray):isQuot s↔kindN s=4:=by
 constructor
 ·exact kind_quot
 ·intro h
  unfold kindN at h
  split at h
  ·omega
  split at h
  ·omega
  split at h
  ·rename_i hh;exact (quotB_iff s).mp hh
  ·repeat (split at h;· omega)
   omega
def accN (s:ByteArray):Nat→Nat→Nat→Nat
 | acc,_,0=>acc
 | acc,k,m+1=>accN s (acc * 10+((byt s k).toNat - 48)) (k+1) m
def readN (s:ByteArray):Int:=if fromD s=1 then -(accN s 0 1 (s.size - 1):Int) else (accN s 0 0 s.size:Int)
theorem accN_lt (s:ByteArray):∀ m acc k,AllIn digB s k (k+m)→accN s acc k m < (acc+1) * 10 ^ m
 | 0,acc,k,_=>by show acc < (acc+1) * 1;omega
 | m+1,acc,k,h=>by
  have h0:=h k (by omega) (by omega)
  have hb:(byt s k).toNat - 48≤9:=by simp [digB] at h0;omega
  have ih:=accN_lt s m (acc * 10+((byt s k).toNat - 48)) (k+1) (fun j a b=>h j (by omega) (by omega))
  show accN s (acc * 10+((byt s k).toNat - 48)) (k+1) m < _
  refine Nat.lt_of_lt_of_le ih ?_
  rw [Nat.pow_succ,Nat.mul_comm (10 ^ m) 10,← Nat.mul_assoc]
  exact Nat.mul_le_mul_right _ (by omega)
theorem parse_acc (s:ByteArray) (M:Nat):∀ m acc k,k+m=s.size→AllIn digB s k s.size→(acc+1) * 10 ^ m≤1000000000→1000000000≤M →
  Go.Lib.parseUintM M acc (s.data.toList.drop k)=.ok (accN s acc k m)
 | 0,acc,k,hk,_,_,_=>by
  have:s.data.toList.drop k=[]:=List.drop_of_length_le (by simp;omega)
  rw [this];rfl
 | m+1,acc,k,hk,h,hl,hM=>by
  have hlt:k < s.size:=by omega
  have h0:=h k (by omega) hlt
  have e:s.data.toList.drop k=s[k] :: s.data.toList.drop (k+1):=by
   rw [List.drop_eq_getElem_cons (by simpa using hlt)]
   congr 1
  have eb:=byt_eq hlt
  have hd:48≤s[k].toNat∧s[k].toNat≤57:=by simp [digB] at h0;omega
  have e10:10 ^ (m+1)=10 * 10 ^ m:=by rw [Nat.pow_succ,Nat.mul_comm]
  have hp:1≤10 ^ m:=Nat.pow_pos (by decide)
  have hq:acc * 10+(s[k].toNat - 48)+1≤(acc+1) * 10:=by omega
  have hr:(acc * 10+(s[k].toNat - 48)+1) * 10 ^ m≤1000000000:=by
   refine Nat.le_trans (Nat.mul_le_mul_right _ hq) ?_
   rw [Nat.mul_assoc,← e10];exact hl
  have hs:acc * 10+(s[k].toNat - 48)+1≤1000000000:=Nat.le_trans (Nat.le_mul_of_pos_right _ hp) hr
  rw [e,Go.Lib.parseUintM,if_pos hd,if_neg (by omega),if_neg (by omega)]
  rw [parse_acc s M m _ (k+1) (by omega) (fun j a b=>h j (by omega) b) hr hM]
  show _=Go.Lib.NumEnd.ok (accN s (acc * 10+((byt s k).toNat - 48)) (k+1) m)
  rw [eb];rfl
theorem parse_numer {s:ByteArray} (h:isNumer s):Go.Lib.parseIntB 64 s.data.toList=.ok (readN s)∧-999999999≤readN s∧readN s≤999999999:=by
 have hh:=numer_head h
 obtain ⟨h1,h2,h3,h4⟩:=h
 have h0:0 < s.size:=by omega
 have e0:s.data.toList=s[0] :: s.data.toList.drop 1:=by
  have:=List.drop_eq_getElem_cons (l:=s.data.toList) (i:=0) (by simpa using h0)
  rw [List.drop_zero] at this
  rw [this];rfl
 have eb:=byt_eq h0
 have e64:(2:Nat) ^ 64 - 1=18446744073709551615:=by decide
 have e63:(2:Nat) ^ (64 - 1)=9223372036854775808:=by decide
 by_cases e:byt s 0=45
 ·have e1:fromD s=1:=by simp [fromD,e]
  rw [e1] at h1 h2 h3
  have c45:s[0]=45:=by
   apply UInt8.toNat_inj.mp
   show s[0].toNat=45
   omega
  have hne:s.data.toList.drop 1≠[]:=by
   intro hc
   have:=congrArg List.length hc
   simp at this
   omega
  have hp:10 ^ (s.size - 1)≤1000000000:=by
   have:10 ^ (s.size - 1)≤10 ^ 9:=Nat.pow_le_pow_right (by decide) (by omega)
   simpa using this
  have hlt:=accN_lt s (s.size - 1) 0 1 (by rw [show 1+(s.size - 1)=s.size by omega];exact h3)
  have hpa:=parse_acc s 18446744073709551615 (s.size - 1) 0 1 (by omega) h3 (by simpa using hp) (by decide)
  have er:readN s=-(accN s 0 1 (s.size - 1):Int):=by simp [readN,e1]
  rw [er]
  refine ⟨?_,by omega,by omega⟩
  rw [e0,c45,Go.Lib.parseIntB_minus,Go.Lib.parseUintB,if_neg hne,e64,hpa,e63]
  simp only [Go.Lib.signedC]
  rw [if_neg (by omega)]
 ·have e1:fromD s=0:=by simp [fromD,e]
  rw [e1] at h1 h2 h3
  have hd:digB (byt s 0)=true:=h3 0 (by omega) (by omega)
  have c43:s[0].toNat≠43:=by simp [digB] at hd;omega
  have c45:s[0].toNat≠45:=by simp [digB] at hd;omega
  have hp:10 ^ s.size≤1000000000:=by
   have:10 ^ s.size≤10 ^ 9:=Nat.pow_le_pow_right (by decide) (by omega)
   simpa using this
  have hlt:=accN_lt s s.size 0 0 (by rw [Nat.zero_add];exact h3)
  have hpa:=parse_acc s 18446744073709551615 s.size 0 0 (by omega) h3 (by simpa using hp) (by decide)
  rw [List.drop_zero,e0] at hpa
  have er:readN s=(accN s 0 0 s.size:Int):=by simp [readN,e1]
  rw [er]
  refine ⟨?_,by omega,by omega⟩
  rw [e0,Go.Lib.parseIntB_plain 64 _ _ c43 c45,Go.Lib.parseUintB,if_neg (by simp),e64,hpa,e63]
  simp only [Go.Lib.signlessC]
  rw [if_neg (by omega)]
end Go.Proofs.YtdgihicpjonjgaaGreatDoor
namespace Go.Proofs.YtdgihicpjonjgaaGreatDoor
open Go.RowKit
set_option maxHeartbeats 400000 in
theorem letterByte_any (c:Int) (w:World) :
  Calls Tryz.prog 147 #[.int .u8 c] w fun e w'=>e=.returned (.bool (letB c))∧w'=w:=by
 unfold letB
 by_cases h1:97≤c <;> by_cases h2:c≤122
 all_goals
  go_enter Tryz.func147,Tryz.ntmps147
  go_wp2
  go_ret
  simp [h1,h2]
set_option maxHeartbeats 400000 in
theorem digitByte_any (c:Int) (w:World) :
  Calls Tryz.prog 148 #[.int .u8 c] w fun e w'=>e=.returned (.bool (digB c))∧w'=w:=by
 unfold digB
 by_cases h1:48≤c <;> by_cases h2:c≤57
 all_goals
  go_enter Tryz.func148,Tryz.ntmps148
  go_wp2
  go_ret
  simp [h1,h2]
def byteK (c:Int):Int:=if c=40∨c=41 then 1 else if c=43∨c=45∨c=42∨c=60∨c=61∨c=38 then 5 else 0
set_option maxHeartbeats 1000000 in
theorem byteKind_any (c:Int) (w:World) :
  Calls Tryz.prog 149 #[.int .u8 c] w fun e w'=>e=.returned (.int .i64 (byteK c))∧w'=w:=by
 by_cases h1:c=40
 ·subst h1
  go_enter Tryz.func149,Tryz.ntmps149
  go_wp2
  go_ret
  exact ⟨rfl,rfl⟩
 by_cases h2:c=41
 ·subst h2
  go_enter Tryz.func149,Tryz.ntmps149
  go_wp2
  go_ret
  exact ⟨rfl,rfl⟩
 by_cases h3:c=43
 ·subst h3
  go_enter Tryz.func149,Tryz.ntmps149
  go_wp2
  go_ret
  exact ⟨rfl,rfl⟩
 by_cases h4:c=45
 ·subst h4
  go_enter Tryz.func149,Tryz.ntmps149
  go_wp2
  go_ret
  exact ⟨rfl,rfl⟩
 by_cases h5:c=42
 ·subst h5
  go_enter Tryz.func149,Tryz.ntmps149
  go_wp2
  go_ret
  exact ⟨rfl,rfl⟩
 by_cases h6:c=60
 ·subst h6
  go_enter Tryz.func149,Tryz.ntmps149
  go_wp2
  go_ret
  exact ⟨rfl,rfl⟩
 by_cases h7:c=61
 ·subst h7
  go_enter Tryz.func149,Tryz.ntmps149
  go_wp2
  go_ret
  exact ⟨rfl,rfl⟩
 by_cases h8:c=38
 ·subst h8
  go_enter Tryz.func149,Tryz.ntmps149
  go_wp2
  go_ret
  exact ⟨rfl,rfl⟩
 have HK:Hid (byteK c=0):=(by simp [byteK,h1,h2,h3,h4,h5,h6,h7,h8]:byteK c=0)
 go_enter Tryz.func149,Tryz.ntmps149
 go_wp2
 go_ret
 exact ⟨by rw [HK.out];rfl,rfl⟩
set_option maxHeartbeats 400000 in
theorem l1In_any (x a b:Int) (w:World) :
  Calls Tryz.prog 125 #[.int .i64 x,.int .i64 a,.int .i64 b] w fun e w'=>e=.returned (.bool (decide (a≤x) && decide (x≤b)))∧w'=w:=by
 by_cases h1:a≤x <;> by_cases h2:x≤b
 all_goals
  go_enter Tryz.func125,Tryz.ntmps125
  go_wp2
  go_ret
  simp [h1,h2]
end Go.Proofs.YtdgihicpjonjgaaGreatDoor
