import Derived.Test.YtdojfommmpnbgaaGreatDoorKAE
import Derived.WalkKit
import Derived.WalkSpells
import Derived.WalkLawsBesides
import Derived.Handy
import Derived.Below
import Derived.OwnWalk
set_option maxHeartbeats 400000
namespace Go.Proofs.YtdojfommmpnbgaaGreatDoor
open Go.RowKit Go.Proofs.Tryz
def nZ(n:Int):Bool:=decide (-999999999≤n)&&decide (n≤999999999)
theorem Jm(n:Int)(w:World) :
  ah 222 #[.int .i64 n] w fun e w'=>e=.returned (.bool (nZ n))∧w'=w:=by
 unfold nZ;by_cases h1:-999999999≤n<;>by_cases h2:n≤999999999
 all_goals
  go_enter func222,ntmps222
  go_wp2
  go_ret
  simp[h1,h2]
theorem Hl(n:Int)(w:World) :
  ah 177 #[.int .i64 n] w fun e w' =>
   e=.returned (.agg #[.int .i64 1,.int .i64 n,.string ⟨#[]⟩])∧ai w w':=by
 go_enter func177,ntmps177;go_wp2;go_returns;exact⟨rfl,by go_grown⟩
theorem xB(n:Int)(w:World) :
  ah 181 #[.agg #[.int .i64 n]] w fun e w' =>
   e=.returned (.agg #[.int .i64 1,.int .i64 n,.string ⟨#[]⟩])∧ai w w':=by
 go_enter func181,ntmps181;go_wp2;go_returns;exact⟨rfl,by go_grown⟩
def mN(n:Int):Int:=if nZ n then n else 0
def iV(s:ByteArray):Bool:=s.toList.isEmpty
def et(k n:Int)(s:ByteArray):Bool :=
 if k=0 then decide (n=0)&&iV s
 else if k=1 then nZ n&&iV s
 else if k=2 then fM s&&decide (n=0)
 else if 3≤k∧k≤5 then decide (0≤n)&&iV s
 else false
def fH(k n:Int)(s:ByteArray):Value :=
 if k=0 then .iface 233 (.agg #[])
 else if k=1 then .iface 202 (.agg #[.int .i64 n])
 else if k=2 then .iface 205 (.agg #[.string s])
 else if 3≤k∧k≤5 then .iface 250 (.agg #[.int .i64 k,.int .i64 n])
 else .iface 243 (.agg #[])
theorem uM(s:ByteArray):s=⟨#[]⟩∨(s.toList.isEmpty=false∧iV s=false):=by
 by_cases h:s.toList.isEmpty=true
 ·left;have h2:s.data.toList=[]:=by
   rw[ByteArray.toList_eq]at h;simpa using h
  cases s with|mk d=>cases d with|mk l=>simp at h2;subst h2;rfl
 ·right;have h2:s.toList.isEmpty=false:=by simpa using h
  exact⟨h2,h2⟩
theorem j4(k n:Int)(s:ByteArray)(w:World) :
  ah 215 #[.agg #[.int .i64 k,.int .i64 n,.string s]] w fun e w' =>
   e=.returned (fH k n s)∧ai w w':=by
 go_each [k=0,k=1,k=2,3≤k,k=3,k=4,k≤5]=>(
  go_enter func215,ntmps215
  go_wp2
  go_ret
  refine⟨?_,by go_grown⟩
  simp[fH, *]
  )
end Go.Proofs.YtdojfommmpnbgaaGreatDoor
namespace Go.Proofs.YtdojfommmpnbgaaGreatDoor
open Go.RowKit
def bc(X:af)(s:ByteArray):Bool:=X.any fun x=>x.toList==s.toList
theorem pd(X:af)(s:ByteArray):bc X s=true↔s∈X:=by
 unfold bc;rw[List.any_eq_true];constructor
 ·rintro⟨x,hx,he⟩;rw[ByteArray.toList_eq,ByteArray.toList_eq,beq_iff_eq]at he;rw[←jS he];exact hx
 ·intro h;exact⟨s,h,by simp⟩
def cV(a b:ByteArray):Bool:=Op.bytesLess a.toList b.toList
def fJ(X:af)(s:ByteArray):Nat:=(X.takeWhile fun x=>cV x s).length
def cN(X:af)(s:ByteArray):af:=if(X.getD (fJ X s) ⟨#[]⟩).toList==s.toList&&decide (fJ X s<X.length)then X else X.take (fJ X s)++[s]++X.drop (fJ X s)
def dp(X:af)(Y:af):af:=Y.foldl cN X
theorem CA(X Y Z:af):dp X (Y++Z)=dp (dp X Y) Z:=by simp[dp]
theorem wL(s:ByteArray):∀(X:af) (k:Nat),k≤X.length→(∀j (h:j<X.length),j<k→cV X[j] s=true)→(∀h:k<X.length,cV X[k] s=false)→fJ X s=k
 |[],k,hk,_,_=>by
  have:k=0:=by simpa using hk
  subst this;rfl
 |x::X,0,_,_,h2=>by
  have:=h2 (by simp);unfold fJ;simp at this;simp[this]
 |x::X,k+1,hk,h1,h2=>by
  have hx:cV x s=true:=h1 0 (by simp) (by omega);have ih:=wL s X k (by simpa using hk) (fun j h hj=>by
   have:=h1 (j+1) (by simpa using h) (by omega);simpa using this) (fun h=>by
   have:=h2 (by simpa using h);simpa using this)
  unfold fJ at ih ⊢;simp[hx,ih]
theorem K6{X:af}{s:ByteArray}{k:Nat}(hp:fJ X s=k)(hk:k<X.length)(h:(X[k].toList==s.toList)=true):cN X s=X:=by
 unfold cN;rw[hp,decide_eq_true hk,show X.getD k ⟨#[]⟩=X[k] by simp[List.getD,hk],h];rfl
theorem CD{X:af}{s:ByteArray}{k:Nat}(hp:fJ X s=k)(h:∀hk:k<X.length,(X[k].toList==s.toList)=false):cN X s=X.take k++[s]++X.drop k:=by
 unfold cN;rw[hp];by_cases hk:k<X.length
 ·rw[show X.getD k ⟨#[]⟩=X[k] by simp[List.getD,hk],h hk];rfl
 ·rw[decide_eq_false hk];simp
theorem K5(X:af)(s:ByteArray):(cN X s).length≤X.length+1:=by
 unfold cN;split
 ·omega
 ·simp only[List.length_append,List.length_take,List.length_drop,List.length_singleton];omega
theorem tB:∀(Y X:af),(dp X Y).length≤X.length+Y.length
 |[],X=>by simp[dp]
 |y::Y,X=>by
  have h1:=tB Y (cN X y);have h2:=K5 X y;have h3:dp X (y::Y)=dp (cN X y) Y:=rfl;rw[h3,List.length_cons];omega
def Eb(c:Int):Bool:=decide (c=32)||decide (c=10)
def Ms(c:Int):Bool:=decide (c=32)||decide (c=10)||decide (c=40)||decide (c=41)||decide (c=39)
def CF(c:Int):Bool:=decide (c=39)
def sE(f:Int→Bool)(s:ByteArray):Nat→Nat→Nat
 |0,j=>j
 |m+1,j=>if f (aI s j)then j else sE f s m (j+1)
def uN(s:ByteArray)(k:Nat):Nat :=
 if aI s k=40∨aI s k=41 then k+1
 else if aI s k=39 then(if sE CF s (s.size-(k+1)) (k+1)<s.size then sE CF s (s.size-(k+1)) (k+1)+1 else s.size)
 else sE Ms s (s.size-(k+1)) (k+1)
def lQ:Nat→ByteArray→Nat→af→Option (af × Bool)
 |0,_,_,_=>none
 |f+1,s,k,acc =>
  if s.size≤k then some (acc,true)
  else if Eb (aI s k)then lQ f s (k+1) acc
  else if acc.length=2000∨bT (s.extract k (uN s k))=false then some ([],false)
  else lQ f s (uN s k) (acc++[s.extract k (uN s k)])
def rM(s:ByteArray)(k:Nat)(acc:af)(r:af × Bool):Prop:=∃f,lQ f s k acc=some r
theorem uA:∀f s k acc r,lQ f s k acc=some r→lQ (f+1) s k acc=some r
 |0,s,k,acc,r,h=>by cases h
 |f+1,s,k,acc,r,h=>by
  unfold lQ at h;unfold lQ;split
  ·rename_i q;rwa [if_pos q]at h
  ·rename_i q;rw[if_neg q]at h;split
   ·rename_i q2;rw[if_pos q2]at h;exact uA f s (k+1) acc r h
   ·rename_i q2;rw[if_neg q2]at h;split
    ·rename_i q3;rwa [if_pos q3]at h
    ·rename_i q3;rw[if_neg q3]at h;exact uA f s _ _ r h
theorem yG(f g:Nat)(s:ByteArray)(k:Nat)(acc:af)(r:af × Bool)(h:lQ f s k acc=some r):lQ (f+g) s k acc=some r:=by
 induction g with
 |zero=>exact h
 |succ g ih=>exact uA _ _ _ _ _ ih
theorem rM.one{s:ByteArray}{k:Nat}{acc:af}{r r':af × Bool}(h:rM s k acc r)(h':rM s k acc r'):r=r':=by
 obtain⟨f,hf⟩:=h;obtain⟨g,hg⟩:=h';have h1:=yG f g s k acc r hf;have h2:=yG g f s k acc r' hg;rw[Nat.add_comm]at h2;rw[h1]at h2;exact Option.some.inj h2
def rS(s:ByteArray)(r:af × Bool):Prop:=if s.size≤20000 then rM s 0 [] r else r=([],false)
theorem rS.one{s:ByteArray}{r r':af × Bool}(h:rS s r)(h':rS s r'):r=r':=by
 unfold rS at h h';split at h
 ·rename_i q;rw[if_pos q]at h';exact h.one h'
 ·rename_i q;rw[if_neg q]at h';rw[h,h']
theorem Tryz.OJ:(Tryz.prog.info? 9).map (fun i=>(i.zero,i.size,i.bytes))=some (some (.string ⟨#[]⟩),1,16):=by kernel_rfl
end Go.Proofs.YtdojfommmpnbgaaGreatDoor
