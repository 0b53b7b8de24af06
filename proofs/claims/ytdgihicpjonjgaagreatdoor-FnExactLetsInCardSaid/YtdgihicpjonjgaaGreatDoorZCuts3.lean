import Derived.Test.YtdgihicpjonjgaaGreatDoorZSignA
import Derived.Test.YtdgihicpjonjgaaGreatDoorZSignC
import Derived.Test.YtdgihicpjonjgaaGreatDoorZOwnA
import Derived.WalkKit
import Derived.OwnWalk
namespace Go.Proofs.YtdgihicpjonjgaaGreatDoor
open Go.RowKit
def blankB (c:Int):Bool:=decide (c=32) || decide (c=10)
def stopB (c:Int):Bool:=decide (c=32) || decide (c=10) || decide (c=40) || decide (c=41) || decide (c=39)
def quoteB (c:Int):Bool:=decide (c=39)
def firstN (f:Int→Bool) (s:ByteArray):Nat→Nat→Nat
 | 0,j=>j
 | m+1,j=>if f (byt s j) then j else firstN f s m (j+1)
def endN (s:ByteArray) (k:Nat):Nat :=
 if byt s k=40∨byt s k=41 then k+1
 else if byt s k=39 then (if firstN quoteB s (s.size - (k+1)) (k+1) < s.size then firstN quoteB s (s.size - (k+1)) (k+1)+1 else s.size)
 else firstN stopB s (s.size - (k+1)) (k+1)
def cutF:Nat→ByteArray→Nat→List ByteArray→Option (List ByteArray × Bool)
 | 0,_,_,_=>none
 | f+1,s,k,acc =>
  if s.size≤k then some (acc,true)
  else if blankB (byt s k) then cutF f s (k+1) acc
  else if acc.length=2000∨signB (s.extract k (endN s k))=false then some ([],false)
  else cutF f s (endN s k) (acc++[s.extract k (endN s k)])
def Cuts (s:ByteArray) (k:Nat) (acc:List ByteArray) (r:List ByteArray × Bool):Prop:=∃ f,cutF f s k acc=some r
theorem cutF_more:∀ f s k acc r,cutF f s k acc=some r→cutF (f+1) s k acc=some r
 | 0,s,k,acc,r,h=>by cases h
 | f+1,s,k,acc,r,h=>by
  unfold cutF at h
  unfold cutF
  split
  ·rename_i q;rwa [if_pos q] at h
  ·rename_i q
   rw [if_neg q] at h
   split
   ·rename_i q2
    rw [if_pos q2] at h
    exact cutF_more f s (k+1) acc r h
   ·rename_i q2
    rw [if_neg q2] at h
    split
    ·rename_i q3;rwa [if_pos q3] at h
    ·rename_i q3
     rw [if_neg q3] at h
     exact cutF_more f s _ _ r h
theorem cutF_plus (f g:Nat) (s:ByteArray) (k:Nat) (acc:List ByteArray) (r:List ByteArray × Bool) (h:cutF f s k acc=some r):cutF (f+g) s k acc=some r:=by
 induction g with
 | zero=>exact h
 | succ g ih=>exact cutF_more _ _ _ _ _ ih
theorem Cuts.one {s:ByteArray} {k:Nat} {acc:List ByteArray} {r r':List ByteArray × Bool} (h:Cuts s k acc r) (h':Cuts s k acc r'):r=r':=by
 obtain ⟨f,hf⟩:=h
 obtain ⟨g,hg⟩:=h'
 have h1:=cutF_plus f g s k acc r hf
 have h2:=cutF_plus g f s k acc r' hg
 rw [Nat.add_comm] at h2
 rw [h1] at h2
 exact Option.some.inj h2
end Go.Proofs.YtdgihicpjonjgaaGreatDoor
namespace Go.Proofs.YtdgihicpjonjgaaGreatDoor
open Go.RowKit
end Go.Proofs.YtdgihicpjonjgaaGreatDoor
namespace Go.Proofs.YtdgihicpjonjgaaGreatDoor
open Go.RowKit
def Page (s:ByteArray) (r:List ByteArray × Bool):Prop:=if s.size≤20000 then Cuts s 0 [] r else r=([],false)
theorem Page.one {s:ByteArray} {r r':List ByteArray × Bool} (h:Page s r) (h':Page s r'):r=r':=by
 unfold Page at h h'
 split at h
 ·rename_i q;rw [if_pos q] at h';exact h.one h'
 ·rename_i q;rw [if_neg q] at h';rw [h,h']
theorem Tryz.infoS:(Tryz.prog.info? 9).map (fun i=>(i.zero,i.size,i.bytes))=some (some (.string ⟨#[]⟩),1,16):=by kernel_rfl
end Go.Proofs.YtdgihicpjonjgaaGreatDoor
