import Derived.Test.YtdgihicpjonjgaaGreatDoorZBase
import Derived.WalkSpells
import Derived.WalkLawsBesides
import Derived.Handy
import Derived.Lib.ItoaNum
import Derived.Laws.BytesArg
namespace Go.Proofs.YtdgihicpjonjgaaGreatDoor
open Go.RowKit
theorem conv1 (wr:World) (x:Int):(convert 53 9 (.slice (some ⟨wr.heap.size,0,none⟩) 1 1)).run Tryz.prog (wr.alloc (.cells #[.int .u8 x] 5))=.ok (.string ⟨#[UInt8.ofNat x.toNat]⟩) (wr.alloc (.cells #[.int .u8 x] 5)):=by
 have h:=run_convert_bytes_arg (P:=Tryz.prog) (wr.alloc (.cells #[.int .u8 x] 5)) 53 5 Tryz.underlying53 Tryz.underlying5 wr.heap.size 0 1 1 [x] rfl (fun i hi=>by
  obtain rfl:i=0:=by omega
  simp [go_sem]) 9 Tryz.underlying9
 rw [h]
 rfl
attribute [local go_sem] conv1
def Digs (m m':Nat) (suf:List UInt8):Prop:=if m'=0∧suf≠[] then suf=Lib.decDigits m else Lib.decDigits m'++suf=Lib.decDigits m
theorem dec_len (m:Nat):(Lib.decDigits m).length≤m+1:=by
 induction m using Nat.strongRecOn with
 | ind m ih =>
  rw [Lib.decDigits]
  split
  ·simp
  ·have:=ih (m / 10) (by omega)
   simp only [List.length_append,List.length_cons,List.length_nil]
   omega
theorem digs_len {m m':Nat} {suf:List UInt8} (h:Digs m m' suf):suf.length≤m+1:=by
 have hd:=dec_len m
 unfold Digs at h
 split at h
 ·rw [h];exact hd
 ·rw [← h,List.length_append] at hd;omega
theorem digs_step {m m':Nat} {suf:List UInt8} (h:Digs m m' suf) (hc:suf=[]∨m'≠0):Digs m (m' / 10) ((48+UInt8.ofNat (m' % 10)) :: suf):=by
 unfold Digs at h ⊢
 rw [if_neg (by rcases hc with hc | hc <;> simp [hc])] at h
 have e:∀ k,(48:UInt8)+UInt8.ofNat k=UInt8.ofNat (48+k):=fun k=>by rw [UInt8.ofNat_add];rfl
 rw [e]
 by_cases hlt:m' < 10
 ·have h1:m' / 10=0:=by omega
  have h2:m' % 10=m':=by omega
  rw [if_pos ⟨h1,by simp⟩,h2,← h,Lib.decDigits,dif_pos hlt]
  rfl
 ·rw [if_neg (by simp;omega),← h,Lib.decDigits.eq_def m',dif_neg hlt]
  simp
theorem digs_end {m:Nat} {b:UInt8} {r:List UInt8} (h:Digs m 0 (b :: r)):b :: r=Lib.decDigits m:=by
 unfold Digs at h
 rwa [if_pos ⟨rfl,by simp⟩] at h
theorem bytes_cons (x:UInt8) (l:List UInt8):(⟨#[x]⟩++⟨l.toArray⟩:ByteArray)=⟨(x :: l).toArray⟩:=by
 apply ByteArray.ext
 simp
theorem bytes_cons0 (x:UInt8):(⟨#[x]⟩++⟨#[]⟩:ByteArray)=⟨[x].toArray⟩:=by
 apply ByteArray.ext
 simp
end Go.Proofs.YtdgihicpjonjgaaGreatDoor
