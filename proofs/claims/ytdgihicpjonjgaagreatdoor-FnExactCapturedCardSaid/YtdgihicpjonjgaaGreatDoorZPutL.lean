import Derived.Test.YtdgihicpjonjgaaGreatDoorZSignC
namespace Go.Proofs.YtdgihicpjonjgaaGreatDoor
open Go.RowKit
def inB (X:List ByteArray) (s:ByteArray):Bool:=X.any fun x=>x.toList == s.toList
theorem inB_iff (X:List ByteArray) (s:ByteArray):inB X s=true↔s∈X:=by
 unfold inB
 rw [List.any_eq_true]
 constructor
 ·rintro ⟨x,hx,he⟩
  rw [ByteArray.toList_eq,ByteArray.toList_eq,beq_iff_eq] at he
  rw [← bytes_ext he]
  exact hx
 ·intro h
  exact ⟨s,h,by simp⟩
def ltB (a b:ByteArray):Bool:=Op.bytesLess a.toList b.toList
def posN (X:List ByteArray) (s:ByteArray):Nat:=(X.takeWhile fun x=>ltB x s).length
def putL (X:List ByteArray) (s:ByteArray):List ByteArray:=if (X.getD (posN X s) ⟨#[]⟩).toList == s.toList && decide (posN X s < X.length) then X else X.take (posN X s)++[s]++X.drop (posN X s)
def putAll (X:List ByteArray) (Y:List ByteArray):List ByteArray:=Y.foldl putL X
theorem putAll_append (X Y Z:List ByteArray):putAll X (Y++Z)=putAll (putAll X Y) Z:=by simp [putAll]
theorem pos_eq (s:ByteArray):∀ (X:List ByteArray) (k:Nat),k≤X.length→(∀ j (h:j < X.length),j < k→ltB X[j] s=true)→(∀ h:k < X.length,ltB X[k] s=false)→posN X s=k
 | [],k,hk,_,_=>by
  have:k=0:=by simpa using hk
  subst this;rfl
 | x :: X,0,_,_,h2=>by
  have:=h2 (by simp)
  unfold posN
  simp at this
  simp [this]
 | x :: X,k+1,hk,h1,h2=>by
  have hx:ltB x s=true:=h1 0 (by simp) (by omega)
  have ih:=pos_eq s X k (by simpa using hk) (fun j h hj=>by
   have:=h1 (j+1) (by simpa using h) (by omega)
   simpa using this) (fun h=>by
   have:=h2 (by simpa using h)
   simpa using this)
  unfold posN at ih ⊢
  simp [hx,ih]
theorem putL_same {X:List ByteArray} {s:ByteArray} {k:Nat} (hp:posN X s=k) (hk:k < X.length) (h:(X[k].toList == s.toList)=true):putL X s=X:=by
 unfold putL
 rw [hp,decide_eq_true hk,show X.getD k ⟨#[]⟩=X[k] by simp [List.getD,hk],h]
 rfl
theorem putL_new {X:List ByteArray} {s:ByteArray} {k:Nat} (hp:posN X s=k) (h:∀ hk:k < X.length,(X[k].toList == s.toList)=false):putL X s=X.take k++[s]++X.drop k:=by
 unfold putL
 rw [hp]
 by_cases hk:k < X.length
 ·rw [show X.getD k ⟨#[]⟩=X[k] by simp [List.getD,hk],h hk]
  rfl
 ·rw [decide_eq_false hk]
  simp
theorem putL_len (X:List ByteArray) (s:ByteArray):(putL X s).length≤X.length+1:=by
 unfold putL
 split
 ·omega
 ·simp only [List.length_append,List.length_take,List.length_drop,List.length_singleton]
  omega
theorem putAll_len:∀ (Y X:List ByteArray),(putAll X Y).length≤X.length+Y.length
 | [],X=>by simp [putAll]
 | y :: Y,X=>by
  have h1:=putAll_len Y (putL X y)
  have h2:=putL_len X y
  have h3:putAll X (y :: Y)=putAll (putL X y) Y:=rfl
  rw [h3,List.length_cons]
  omega
end Go.Proofs.YtdgihicpjonjgaaGreatDoor
