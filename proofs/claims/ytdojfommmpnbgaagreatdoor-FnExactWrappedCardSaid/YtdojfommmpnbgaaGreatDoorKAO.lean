import Derived.Test.YtdojfommmpnbgaaGreatDoorKAA
import Derived.WalkSpells
import Derived.WalkLawsBesides
import Derived.Handy
import Derived.Lib.ItoaNum
import Derived.Laws.BytesArg
set_option maxHeartbeats 1000000
namespace Go.Proofs.YtdojfommmpnbgaaGreatDoor
open Go.RowKit Go.Proofs.Tryz
theorem yF(wr:World)(x:Int):(convert 70 9 (.slice (some ⟨wr.heap.size,0,none⟩) 1 1)).run prog (wr.alloc (.cells #[.int .u8 x] 5))=.ok (.string ⟨#[UInt8.ofNat x.toNat]⟩) (wr.alloc (.cells #[.int .u8 x] 5)):=by
 have h:=run_convert_bytes_arg (P:=prog) (wr.alloc (.cells #[.int .u8 x] 5)) 70 5 Tryz.underlying70 Tryz.underlying5 wr.heap.size 0 1 1 [x] rfl (fun i hi=>by
  obtain rfl:i=0:=by omega
  simp[go_sem]) 9 Tryz.underlying9
 rw[h];rfl
attribute [local go_sem] yF
def pn(v0 v3:Value):Nat:=(intOf v0).natAbs+(match v3 with|.string s=>if s.size=0 then 1 else 0|_=>0)
def jO(m m':Nat)(suf:List UInt8):Prop:=if m'=0∧suf≠[]then suf=Lib.decDigits m else Lib.decDigits m'++suf=Lib.decDigits m
theorem EF(m:Nat):(Lib.decDigits m).length≤m+1:=by
 induction m using Nat.strongRecOn with
 |ind m ih =>
  rw[Lib.decDigits];split
  ·simp
  ·have:=ih (m/10) (by omega);simp only[List.length_append,List.length_cons,List.length_nil];omega
theorem uI{m m':Nat}{suf:List UInt8}(h:jO m m' suf):suf.length≤m+1:=by
 have hd:=EF m;unfold jO at h;split at h
 ·rw[h];exact hd
 ·rw[←h,List.length_append]at hd;omega
theorem oP{m m':Nat}{suf:List UInt8}(h:jO m m' suf)(hc:suf=[]∨m'≠0):jO m (m'/10) ((48+UInt8.ofNat (m'%10))::suf):=by
 unfold jO at h ⊢;rw[if_neg (by rcases hc with hc|hc<;>simp[hc])]at h;have e:∀k,(48:UInt8)+UInt8.ofNat k=UInt8.ofNat (48+k):=fun k=>by rw[UInt8.ofNat_add];rfl
 rw[e];by_cases hlt:m'<10
 ·have h1:m'/10=0:=by omega
  have h2:m'%10=m':=by omega
  rw[if_pos ⟨h1,by simp⟩,h2,←h,Lib.decDigits,dif_pos hlt];rfl
 ·rw[if_neg (by simp;omega),←h,Lib.decDigits.eq_def m',dif_neg hlt];simp
theorem uH{m:Nat}{b:UInt8}{r:List UInt8}(h:jO m 0 (b::r)):b::r=Lib.decDigits m:=by
 unfold jO at h;rwa [if_pos ⟨rfl,by simp⟩]at h
theorem lO(x:UInt8)(l:List UInt8):(⟨#[x]⟩++⟨l.toArray⟩:ByteArray)=⟨(x::l).toArray⟩:=by
 apply ByteArray.ext;simp
theorem qb(x:UInt8):(⟨#[x]⟩++⟨#[]⟩:ByteArray)=⟨[x].toArray⟩:=by
 apply ByteArray.ext;simp
theorem yq{m':Nat}(h:(m':Int)%10≤0):UInt8.ofNat (48+-((m':Int)%10)).toNat=48+UInt8.ofNat (m'%10):=by
 have h1:(m':Int)%10=0:=by omega
 have h2:m'%10=0:=by omega
 rw[h1,h2];rfl
theorem Hi(m:Nat)(w:World)(hm:m≤999999999) :
  ah 55 #[.int .i64 m] w (aA (.string ⟨(Lib.decDigits m).toArray⟩) w):=by
 have h0:(0:Int)≤(m:Int):=Int.natCast_nonneg _;have h00:¬(m:Int)<0:=by omega
 go_enter func55,ntmps55;go_wp2;go_loopw [0,3] (fun v0 v3 wr=>∃(m':Nat) (suf:List UInt8),v0=.int .i64 (m':Int)∧v3=.string ⟨suf.toArray⟩∧m'≤m∧jO m m' suf∧ai w wr) (fun v0 v3 _=>pn v0 v3)
 case atStart=>exact⟨m,[],rfl,rfl,Nat.le_refl _,by simp[jO],Below.refl _ _⟩
 case round =>
  obtain⟨m',suf,rfl,rfl,hle,hp,hbl⟩:=hrel;cases suf with
  |nil =>
   go_wp2;refine⟨⟨m'/10,[48+UInt8.ofNat (m'%10)],by go_num,by rw[qb],by omega,oP hp (.inl rfl),ay hbl _⟩,?_⟩;rw[qb];simp[pn,intOf,ByteArray.size];omega
  |cons b r =>
   by_cases hz:m'=0
   ·subst hz;go_wp2;go_ret;exact⟨by rw[←uH hp];rfl,hbl⟩
   ·have hz':((m':Int) != 0)=true:=by simp;omega
    have hl:¬9223372036854775807<1+(r.length+1):=by
     have:=uI hp;simp only[List.length_cons]at this;omega
    go_wp2;refine⟨⟨m'/10,(48+UInt8.ofNat (m'%10))::b::r,by go_num,by rw[lO],by omega,oP hp (.inr hz),ay hbl _⟩,?_⟩;rw[lO];simp[pn,intOf,ByteArray.size];omega
theorem Hh(m:Nat)(w:World)(hm:m≤999999999)(hm0:0<m) :
  ah 55 #[.int .i64 (-(m:Int))] w (aA (.string ⟨(45::Lib.decDigits m).toArray⟩) w):=by
 have h0:-(m:Int)<0:=by omega
 go_enter func55,ntmps55;go_wp2;go_loopw [0,3] (fun v0 v3 wr=>∃(m':Nat) (suf:List UInt8),v0=.int .i64 (-(m':Int))∧v3=.string ⟨suf.toArray⟩∧m'≤m∧jO m m' suf∧ai w wr) (fun v0 v3 _=>pn v0 v3)
 case atStart=>exact⟨m,[],rfl,rfl,Nat.le_refl _,by simp[jO],Below.refl _ _⟩
 case round =>
  obtain⟨m',suf,rfl,rfl,hle,hp,hbl⟩:=hrel;cases suf with
  |nil =>
   go_wp2
   all_goals
    try rw[yq ‹_›]
    refine⟨⟨m'/10,[48+UInt8.ofNat (m'%10)],by go_num,by rw[qb],by omega,oP hp (.inl rfl),ay hbl _⟩,?_⟩
    rw[qb]
    simp[pn,intOf,ByteArray.size]
    omega
  |cons b r =>
   have hl:¬9223372036854775807<1+(r.length+1):=by
    have:=uI hp;simp only[List.length_cons]at this;omega
   by_cases hz:m'=0
   ·subst hz;go_wp2;go_ret;exact⟨by rw[←uH hp,←lO];rfl,hbl⟩
   ·have hz':((m':Int) != 0)=true:=by simp;omega
    go_wp2
    all_goals
     try rw[yq ‹_›]
     refine⟨⟨m'/10,(48+UInt8.ofNat (m'%10))::b::r,by go_num,by rw[lO],by omega,oP hp (.inr hz),ay hbl _⟩,?_⟩
     rw[lO]
     simp[pn,intOf,ByteArray.size]
     omega
theorem A3(n:Int)(w:World)(h0:-999999999≤n)(h1:n≤999999999) :
  ah 55 #[.int .i64 n] w (aA (.string ⟨(Lib.itoa n).toArray⟩) w):=by
 by_cases hn:n<0
 ·have e:n=-((n.natAbs:Nat):Int):=by omega
  have ei:Lib.itoa n=45::Lib.decDigits n.natAbs:=by unfold Lib.itoa;rw[if_pos hn]
  rw[ei];have h:=Hh n.natAbs w (by omega) (by omega);rw[←e]at h;exact h
 ·have e:n=((n.toNat:Nat):Int):=by omega
  have ei:Lib.itoa n=Lib.decDigits n.toNat:=by unfold Lib.itoa;rw[if_neg hn]
  rw[ei];have h:=Hi n.toNat w (by omega);rw[←e]at h;exact h
end Go.Proofs.YtdojfommmpnbgaaGreatDoor
