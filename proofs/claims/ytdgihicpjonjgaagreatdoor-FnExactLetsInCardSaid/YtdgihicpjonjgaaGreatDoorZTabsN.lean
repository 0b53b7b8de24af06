import Derived.Test.YtdgihicpjonjgaaGreatDoorZTabs
import Derived.Test.YtdgihicpjonjgaaGreatDoorZPairB
import Derived.Test.YtdgihicpjonjgaaGreatDoorZReadV
import Derived.Laws.EntriesVeiled
namespace Go.Proofs.YtdgihicpjonjgaaGreatDoor
open Go.RowKit
set_option maxHeartbeats 1000000 in
theorem fits_any (s:ByteArray) (k q:Nat) (F:Value) (w:World) :
  Calls Tryz.prog 114 #[.agg #[.string s,.int .i64 (k:Int),F],.int .i64 (q:Int)] w fun e w'=>e=.returned (.bool (fitB k q))∧Below w.heap.size w w':=by
 by_cases h1:k=q
 ·have HF:Hid (fitB k q=true):=(by simp [fitB,h1]:fitB k q=true)
  have b1:((k:Int) == (q:Int))=true:=by simp [h1]
  clear h1
  go_enter Tryz.func114,Tryz.ntmps114
  go_wp2
  go_ret
  exact ⟨by rw [HF.out];rfl,by go_grown⟩
 have b1:((k:Int) == (q:Int))=false:=by simp;omega
 by_cases h2:k=2
 ·have b2:((k:Int) == 2)=true:=by simp;omega
  by_cases h3:q=3
  ·have HF:Hid (fitB k q=true):=(by simp [fitB,h2,h3]:fitB k q=true)
   have b3:((q:Int) == 3)=true:=by simp;omega
   clear h1 h2 h3
   go_enter Tryz.func114,Tryz.ntmps114
   go_wp2
   go_ret
   exact ⟨by rw [HF.out];rfl,by go_grown⟩
  ·have HF:Hid (fitB k q=false):=(by simp [fitB,h2,h3];omega:fitB k q=false)
   have b3:((q:Int) == 3)=false:=by simp;omega
   clear h1 h2 h3
   go_enter Tryz.func114,Tryz.ntmps114
   go_wp2
   go_ret
   exact ⟨by rw [HF.out];rfl,by go_grown⟩
 ·have HF:Hid (fitB k q=false):=(by simp [fitB,h1,h2]:fitB k q=false)
  have b2:((k:Int) == 2)=false:=by simp;omega
  clear h1 h2
  go_enter Tryz.func114,Tryz.ntmps114
  go_wp2
  go_ret
  exact ⟨by rw [HF.out];rfl,by go_grown⟩
def OpenP (h:List UInt8) (q:Nat) (v:Value):Prop :=
 (∃ k,∃ hk:k < tabL.length,hitB h q tabL[k].1=true∧(∀ j (hj:j < tabL.length),j < k→hitB h q tabL[j].1=false)∧v=.tuple #[.agg #[.string (headV tabL[k]),.int .i64 (tabL[k].1.2.1:Int),.func (.func tabL[k].2) #[] #[]],.bool true]) ∨
 ((∀ j (hj:j < tabL.length),hitB h q tabL[j].1=false)∧v=.tuple #[.agg #[.string ⟨#[]⟩,.int .i64 0,.nilFunc],.bool false])
theorem headV_list (x:(List UInt8 × Nat × List Nat × Option Nat) × Nat):(headV x).toList=x.1.1:=lit_list _
theorem hit_no {h:List UInt8} {q:Nat} {x:(List UInt8 × Nat × List Nat × Option Nat) × Nat} (hf:fitB x.1.2.1 q=false):hitB h q x.1=false:=by
 unfold hitB
 rw [hf]
 rfl
theorem hit_any {h:List UInt8} {q:Nat} {x:(List UInt8 × Nat × List Nat × Option Nat) × Nat} (hf:fitB x.1.2.1 q=true) (he:(headV x).toList.isEmpty=true):hitB h q x.1=true:=by
 rw [headV_list] at he
 unfold hitB
 rw [hf,he]
 rfl
theorem hit_word {h:List UInt8} {q:Nat} {x:(List UInt8 × Nat × List Nat × Option Nat) × Nat} (hf:fitB x.1.2.1 q=true) (he:(headV x).toList.isEmpty=false):hitB h q x.1=((headV x).toList == h):=by
 rw [headV_list] at he ⊢
 unfold hitB
 rw [hf,he]
 rfl
set_option maxHeartbeats 4000000 in
theorem openedR_any (g:Nat) (a:Option Addr) (cap len:Nat) (i q:Nat) (hd:ByteArray) (w:World) (hT:TabT w g) (hL:len≤1048576) (hi:i < len) (hc:i+1 < len→∃ sb off,a=some ⟨sb,off,none⟩∧w.cell? ⟨sb,off+(i+1),none⟩=some (.string hd)∧sb < w.heap.size) (hn:¬ i+1 < len→hd=⟨#[]⟩) :
  Calls Tryz.prog 82 #[.slice (some ⟨g,0,none⟩) 34 34,.slice a len cap,.int .i64 (i:Int),.int .i64 (q:Int)] w fun e w'=>∃ v,e=.returned v∧OpenP hd.toList q v∧Below w.heap.size w w':=by
 have HR:Hid (∀ k,∀ hk:k < tabL.length,(∀ j (hj:j < tabL.length),j < k→hitB hd.toList q tabL[j].1=false)→hitB hd.toList q tabL[k].1=false→∀ j (hj:j < tabL.length),j < k+1→hitB hd.toList q tabL[j].1=false):=fun k hk hA hq j hj hjk=>by
  by_cases e:j=k
  ·subst e;exact hq
  ·exact hA j hj (by omega)
 by_cases hlt:i+1 < len
 ·obtain ⟨sb,off,rfl,hc,hsb⟩:=hc hlt
  have hdec:decide ((i:Int)+1 < (len:Int))=true:=decide_eq_true (by omega)
  clear hn
  go_enter Tryz.func82,Tryz.ntmps82
  go_wp2
  go_loopw [25] (fun v wr=>∃ k:Nat,k≤34∧v=.int .i64 (k:Int)∧Below w.heap.size w wr∧Own w.heap.size wr∧Hid (∀ j (hj:j < tabL.length),j < k→hitB hd.toList q tabL[j].1=false)) (fun v _=>34 - (intOf v).toNat)
  case atStart=>exact ⟨0,by omega,rfl,by go_grown,own0 _ _ _ _ _,fun j _ hj=>absurd hj (Nat.not_lt_zero _)⟩
  case round =>
   obtain ⟨k,hk,rfl,hB,hO,HA⟩:=hrel
   by_cases hkl:k < 34
   ·obtain ⟨c0,c1,c2⟩:=hT.2 k hkl
    have hg:=hT.1
    have d0:=(hB.cell (p:=⟨g,k * 3,none⟩) hg).trans c0
    have d1:=(hB.cell (p:=⟨g,k * 3+1,none⟩) hg).trans c1
    have d2:=(hB.cell (p:=⟨g,k * 3+2,none⟩) hg).trans c2
    clear c0 c1 c2
    obtain ⟨⟨r0,o0⟩,⟨r1,o1⟩,⟨r2,o2⟩,f0,f1,f2,hz⟩:=hO
    have hO:Own w.heap.size wr:=⟨⟨r0,o0⟩,⟨r1,o1⟩,⟨r2,o2⟩,f0,f1,f2,hz⟩
    cases hf:fitB (tabL[k]'hkl).1.2.1 q
    ·have HN:Hid (∀ j (hj:j < tabL.length),j < k+1→hitB hd.toList q tabL[j].1=false):=HR.out k hkl HA.out (hit_no hf)
     have HF:Hid (fitB (tabL[k]'hkl).1.2.1 q=false):=hf
     clear hf
     generalize headV (tabL[k]'hkl)=s at d0
     generalize (tabL[k]'hkl).1.2.1=kk at d1 HF
     generalize (tabL[k]'hkl).2=fn at d2
     go_wp2_with fail
     refine (fits_any s kk q (.func (.func fn) #[] #[]) _).mono ?_
     rintro e w1 ⟨rfl,hb1⟩
     rw [HF.out]
     have hW:Below wr.heap.size wr w1:=(by repeat' (first | (with_reducible exact Below.refl _ _) | (with_reducible refine Below.drew ?_) | (with_reducible refine balloc ?_ _) | (with_reducible refine bset ?_ _ ?_) | (with_reducible refine bstep ?_ (by with_reducible assumption)) | go_size))
     clear hb1
     go_wp2
     go_roundw
     case rel =>
      exact ⟨k+1,by omega,by go_num,bstep hB hW,hO.call hW,HN.out⟩
     case measure=>simp [intOf];omega
    ·cases he:(headV (tabL[k]'hkl)).toList.isEmpty
     ·have hw:=hit_word (h:=hd.toList) hf he
      cases hq:((headV (tabL[k]'hkl)).toList == hd.toList)
      ·have HN:Hid (∀ j (hj:j < tabL.length),j < k+1→hitB hd.toList q tabL[j].1=false):=HR.out k hkl HA.out (hw.trans hq)
       have HF:Hid (fitB (tabL[k]'hkl).1.2.1 q=true):=hf
       clear hf hw
       generalize headV (tabL[k]'hkl)=s at d0 he hq
       generalize (tabL[k]'hkl).1.2.1=kk at d1 HF
       generalize (tabL[k]'hkl).2=fn at d2
       go_wp2_with fail
       refine (fits_any s kk q (.func (.func fn) #[] #[]) _).mono ?_
       rintro e w1 ⟨rfl,hb1⟩
       rw [HF.out]
       have hW:Below wr.heap.size wr w1:=(by repeat' (first | (with_reducible exact Below.refl _ _) | (with_reducible refine Below.drew ?_) | (with_reducible refine balloc ?_ _) | (with_reducible refine bset ?_ _ ?_) | (with_reducible refine bstep ?_ (by with_reducible assumption)) | go_size))
       obtain ⟨hc1,hf1⟩:=bcell hb1
       go_wp2
       go_roundw
       case rel=>exact ⟨k+1,by omega,by go_num,bstep hB hW,hO.call hW,HN.out⟩
       case measure=>simp [intOf];omega
      ·have HH:Hid (hitB hd.toList q (tabL[k]'hkl).1=true):=hw.trans hq
       have HF:Hid (fitB (tabL[k]'hkl).1.2.1 q=true):=hf
       have HE:Hid (∀ v,v=.tuple #[.agg #[.string (headV (tabL[k]'hkl)),.int .i64 ((tabL[k]'hkl).1.2.1:Int),.func (.func (tabL[k]'hkl).2) #[] #[]],.bool true]→OpenP hd.toList q v):=fun v hv=>Or.inl ⟨k,hkl,HH.out,HA.out,hv⟩
       clear hf hw HH
       generalize headV (tabL[k]'hkl)=s at d0 he hq HE
       generalize (tabL[k]'hkl).1.2.1=kk at d1 HF HE
       generalize (tabL[k]'hkl).2=fn at d2 HE
       go_wp2_with fail
       refine (fits_any s kk q (.func (.func fn) #[] #[]) _).mono ?_
       rintro e w1 ⟨rfl,hb1⟩
       rw [HF.out]
       have hW:Below wr.heap.size wr w1:=(by repeat' (first | (with_reducible exact Below.refl _ _) | (with_reducible refine Below.drew ?_) | (with_reducible refine balloc ?_ _) | (with_reducible refine bset ?_ _ ?_) | (with_reducible refine bstep ?_ (by with_reducible assumption)) | go_size))
       obtain ⟨hc1,hf1⟩:=bcell hb1
       have hB1:=bstep hB hW
       have hz1:wr.heap.size < w1.heap.size:=bsize hb1 _ (by simp)
       obtain ⟨⟨x0,y0⟩,⟨x1,y1⟩,⟨x2,y2⟩,g0,g1,g2,yz⟩:=hO.call hW
       go_wp2
       refine bodyPost_ret (v:=.tuple #[.agg #[.string s,.int .i64 (kk:Int),.func (.func fn) #[] #[]],.bool true]) (by simp [results,Tryz.results82,go_sem,y0,y1,y2]) rfl ?_
       refine ⟨_,rfl,HE.out _ rfl,?_⟩
       exact (by repeat' (first | (with_reducible exact Below.refl _ _) | (with_reducible refine Below.drew ?_) | (with_reducible refine balloc ?_ _) | (with_reducible refine bset ?_ _ ?_) | (with_reducible refine bstep ?_ (by with_reducible assumption)) | go_size))
     ·have HH:Hid (hitB hd.toList q (tabL[k]'hkl).1=true):=hit_any hf he
      have HF:Hid (fitB (tabL[k]'hkl).1.2.1 q=true):=hf
      have HE:Hid (∀ v,v=.tuple #[.agg #[.string (headV (tabL[k]'hkl)),.int .i64 ((tabL[k]'hkl).1.2.1:Int),.func (.func (tabL[k]'hkl).2) #[] #[]],.bool true]→OpenP hd.toList q v):=fun v hv=>Or.inl ⟨k,hkl,HH.out,HA.out,hv⟩
      clear hf HH
      generalize headV (tabL[k]'hkl)=s at d0 he HE
      generalize (tabL[k]'hkl).1.2.1=kk at d1 HF HE
      generalize (tabL[k]'hkl).2=fn at d2 HE
      go_wp2_with fail
      refine (fits_any s kk q (.func (.func fn) #[] #[]) _).mono ?_
      rintro e w1 ⟨rfl,hb1⟩
      rw [HF.out]
      have hW:Below wr.heap.size wr w1:=(by repeat' (first | (with_reducible exact Below.refl _ _) | (with_reducible refine Below.drew ?_) | (with_reducible refine balloc ?_ _) | (with_reducible refine bset ?_ _ ?_) | (with_reducible refine bstep ?_ (by with_reducible assumption)) | go_size))
      obtain ⟨hc1,hf1⟩:=bcell hb1
      have hB1:=bstep hB hW
      have hz1:wr.heap.size < w1.heap.size:=bsize hb1 _ (by simp)
      obtain ⟨⟨x0,y0⟩,⟨x1,y1⟩,⟨x2,y2⟩,g0,g1,g2,yz⟩:=hO.call hW
      go_wp2
      refine bodyPost_ret (v:=.tuple #[.agg #[.string s,.int .i64 (kk:Int),.func (.func fn) #[] #[]],.bool true]) (by simp [results,Tryz.results82,go_sem,y0,y1,y2]) rfl ?_
      refine ⟨_,rfl,HE.out _ rfl,?_⟩
      exact (by repeat' (first | (with_reducible exact Below.refl _ _) | (with_reducible refine Below.drew ?_) | (with_reducible refine balloc ?_ _) | (with_reducible refine bset ?_ _ ?_) | (with_reducible refine bstep ?_ (by with_reducible assumption)) | go_size))
   ·have HE:Hid (OpenP hd.toList q (.tuple #[.agg #[.string ⟨#[]⟩,.int .i64 0,.nilFunc],.bool false])):=Or.inr ⟨fun j hj=>HA.out j hj (by have:=tab_len;omega),rfl⟩
    obtain ⟨⟨r0,o0⟩,⟨r1,o1⟩,⟨r2,o2⟩,f0,f1,f2,hz⟩:=hO
    go_wp2
    refine bodyPost_ret (v:=.tuple #[.agg #[.string ⟨#[]⟩,.int .i64 0,.nilFunc],.bool false]) (by simp [results,Tryz.results82,go_sem,o0,o1,o2]) rfl ?_
    refine ⟨_,rfl,HE.out,?_⟩
    exact (by repeat' (first | (with_reducible exact Below.refl _ _) | (with_reducible refine Below.drew ?_) | (with_reducible refine balloc ?_ _) | (with_reducible refine bset ?_ _ ?_) | (with_reducible refine bstep ?_ (by with_reducible assumption)) | go_size))
 ·obtain rfl:=hn hlt
  have hdec:decide ((i:Int)+1 < (len:Int))=false:=decide_eq_false (by omega)
  clear hc hn
  go_enter Tryz.func82,Tryz.ntmps82
  go_wp2
  go_loopw [25] (fun v wr=>∃ k:Nat,k≤34∧v=.int .i64 (k:Int)∧Below w.heap.size w wr∧Own w.heap.size wr∧Hid (∀ j (hj:j < tabL.length),j < k→hitB (⟨#[]⟩:ByteArray).toList q tabL[j].1=false)) (fun v _=>34 - (intOf v).toNat)
  case atStart=>exact ⟨0,by omega,rfl,by go_grown,own0 _ _ _ _ _,fun j _ hj=>absurd hj (Nat.not_lt_zero _)⟩
  case round =>
   obtain ⟨k,hk,rfl,hB,hO,HA⟩:=hrel
   by_cases hkl:k < 34
   ·obtain ⟨c0,c1,c2⟩:=hT.2 k hkl
    have hg:=hT.1
    have d0:=(hB.cell (p:=⟨g,k * 3,none⟩) hg).trans c0
    have d1:=(hB.cell (p:=⟨g,k * 3+1,none⟩) hg).trans c1
    have d2:=(hB.cell (p:=⟨g,k * 3+2,none⟩) hg).trans c2
    clear c0 c1 c2
    obtain ⟨⟨r0,o0⟩,⟨r1,o1⟩,⟨r2,o2⟩,f0,f1,f2,hz⟩:=hO
    have hO:Own w.heap.size wr:=⟨⟨r0,o0⟩,⟨r1,o1⟩,⟨r2,o2⟩,f0,f1,f2,hz⟩
    cases hf:fitB (tabL[k]'hkl).1.2.1 q
    ·have HN:Hid (∀ j (hj:j < tabL.length),j < k+1→hitB (⟨#[]⟩:ByteArray).toList q tabL[j].1=false):=HR.out k hkl HA.out (hit_no hf)
     have HF:Hid (fitB (tabL[k]'hkl).1.2.1 q=false):=hf
     clear hf
     generalize headV (tabL[k]'hkl)=s at d0
     generalize (tabL[k]'hkl).1.2.1=kk at d1 HF
     generalize (tabL[k]'hkl).2=fn at d2
     go_wp2_with fail
     refine (fits_any s kk q (.func (.func fn) #[] #[]) _).mono ?_
     rintro e w1 ⟨rfl,hb1⟩
     rw [HF.out]
     have hW:Below wr.heap.size wr w1:=(by repeat' (first | (with_reducible exact Below.refl _ _) | (with_reducible refine Below.drew ?_) | (with_reducible refine balloc ?_ _) | (with_reducible refine bset ?_ _ ?_) | (with_reducible refine bstep ?_ (by with_reducible assumption)) | go_size))
     clear hb1
     go_wp2
     go_roundw
     case rel=>exact ⟨k+1,by omega,by go_num,bstep hB hW,hO.call hW,HN.out⟩
     case measure=>simp [intOf];omega
    ·cases he:(headV (tabL[k]'hkl)).toList.isEmpty
     ·have hw:=hit_word (h:=(⟨#[]⟩:ByteArray).toList) hf he
      cases hq:((headV (tabL[k]'hkl)).toList == (⟨#[]⟩:ByteArray).toList)
      ·have HN:Hid (∀ j (hj:j < tabL.length),j < k+1→hitB (⟨#[]⟩:ByteArray).toList q tabL[j].1=false):=HR.out k hkl HA.out (hw.trans hq)
       have HF:Hid (fitB (tabL[k]'hkl).1.2.1 q=true):=hf
       clear hf hw
       generalize headV (tabL[k]'hkl)=s at d0 he hq
       generalize (tabL[k]'hkl).1.2.1=kk at d1 HF
       generalize (tabL[k]'hkl).2=fn at d2
       go_wp2_with fail
       refine (fits_any s kk q (.func (.func fn) #[] #[]) _).mono ?_
       rintro e w1 ⟨rfl,hb1⟩
       rw [HF.out]
       have hW:Below wr.heap.size wr w1:=(by repeat' (first | (with_reducible exact Below.refl _ _) | (with_reducible refine Below.drew ?_) | (with_reducible refine balloc ?_ _) | (with_reducible refine bset ?_ _ ?_) | (with_reducible refine bstep ?_ (by with_reducible assumption)) | go_size))
       obtain ⟨hc1,hf1⟩:=bcell hb1
       go_wp2
       go_roundw
       case rel=>exact ⟨k+1,by omega,by go_num,bstep hB hW,hO.call hW,HN.out⟩
       case measure=>simp [intOf];omega
      ·exfalso
       rw [beq_iff_eq] at hq
       rw [hq] at he
       rw [lit_list []] at he
       exact absurd he (by decide)
     ·have HH:Hid (hitB (⟨#[]⟩:ByteArray).toList q (tabL[k]'hkl).1=true):=hit_any hf he
      have HF:Hid (fitB (tabL[k]'hkl).1.2.1 q=true):=hf
      have HE:Hid (∀ v,v=.tuple #[.agg #[.string (headV (tabL[k]'hkl)),.int .i64 ((tabL[k]'hkl).1.2.1:Int),.func (.func (tabL[k]'hkl).2) #[] #[]],.bool true]→OpenP (⟨#[]⟩:ByteArray).toList q v):=fun v hv=>Or.inl ⟨k,hkl,HH.out,HA.out,hv⟩
      clear hf HH
      generalize headV (tabL[k]'hkl)=s at d0 he HE
      generalize (tabL[k]'hkl).1.2.1=kk at d1 HF HE
      generalize (tabL[k]'hkl).2=fn at d2 HE
      go_wp2_with fail
      refine (fits_any s kk q (.func (.func fn) #[] #[]) _).mono ?_
      rintro e w1 ⟨rfl,hb1⟩
      rw [HF.out]
      have hW:Below wr.heap.size wr w1:=(by repeat' (first | (with_reducible exact Below.refl _ _) | (with_reducible refine Below.drew ?_) | (with_reducible refine balloc ?_ _) | (with_reducible refine bset ?_ _ ?_) | (with_reducible refine bstep ?_ (by with_reducible assumption)) | go_size))
      obtain ⟨hc1,hf1⟩:=bcell hb1
      have hB1:=bstep hB hW
      have hz1:wr.heap.size < w1.heap.size:=bsize hb1 _ (by simp)
      obtain ⟨⟨x0,y0⟩,⟨x1,y1⟩,⟨x2,y2⟩,g0,g1,g2,yz⟩:=hO.call hW
      go_wp2
      refine bodyPost_ret (v:=.tuple #[.agg #[.string s,.int .i64 (kk:Int),.func (.func fn) #[] #[]],.bool true]) (by simp [results,Tryz.results82,go_sem,y0,y1,y2]) rfl ?_
      refine ⟨_,rfl,HE.out _ rfl,?_⟩
      exact (by repeat' (first | (with_reducible exact Below.refl _ _) | (with_reducible refine Below.drew ?_) | (with_reducible refine balloc ?_ _) | (with_reducible refine bset ?_ _ ?_) | (with_reducible refine bstep ?_ (by with_reducible assumption)) | go_size))
   ·have HE:Hid (OpenP (⟨#[]⟩:ByteArray).toList q (.tuple #[.agg #[.string ⟨#[]⟩,.int .i64 0,.nilFunc],.bool false])):=Or.inr ⟨fun j hj=>HA.out j hj (by have:=tab_len;omega),rfl⟩
    obtain ⟨⟨r0,o0⟩,⟨r1,o1⟩,⟨r2,o2⟩,f0,f1,f2,hz⟩:=hO
    go_wp2
    refine bodyPost_ret (v:=.tuple #[.agg #[.string ⟨#[]⟩,.int .i64 0,.nilFunc],.bool false]) (by simp [results,Tryz.results82,go_sem,o0,o1,o2]) rfl ?_
    refine ⟨_,rfl,HE.out,?_⟩
    exact (by repeat' (first | (with_reducible exact Below.refl _ _) | (with_reducible refine Below.drew ?_) | (with_reducible refine balloc ?_ _) | (with_reducible refine bset ?_ _ ?_) | (with_reducible refine bstep ?_ (by with_reducible assumption)) | go_size))
end Go.Proofs.YtdgihicpjonjgaaGreatDoor
namespace Go.Proofs.YtdgihicpjonjgaaGreatDoor
open Go.RowKit
theorem words_in:(wordsL.all fun x=>(x.toList == [110,111,110,101]) || (nameB x && tabL.any fun y=>(headV y).toList == x.toList))=true:=by decide +kernel
theorem heads_in:(tabL.all fun y=>!nameB (headV y) || resB (headV y))=true:=by decide +kernel
theorem res_none {s:ByteArray} (h:(s.toList == [110,111,110,101])=true):resB s=true:=by
 have e:s=⟨#[110,111,110,101]⟩:=isW_eq h
 rw [e]
 decide +kernel
theorem res_head {s:ByteArray} {k:Nat} (hk:k < tabL.length) (h:((headV tabL[k]).toList == s.toList)=true) (hn:nameB s=true):resB s=true:=by
 rw [beq_iff_eq,ByteArray.toList_eq,ByteArray.toList_eq] at h
 have e:=bytes_ext h
 have:=(List.all_eq_true.mp heads_in) _ (List.getElem_mem hk)
 rw [e,hn] at this
 simpa using this
theorem res_not {s:ByteArray} (h0:(s.toList == [110,111,110,101])=false) (h:∀ k (hk:k < tabL.length),((headV tabL[k]).toList == s.toList && nameB s)=false):resB s=false:=by
 cases hr:resB s
 ·rfl
 ·have hm:=(resB_iff s).mp hr
  have:=(List.all_eq_true.mp words_in) _ hm
  rw [h0,Bool.false_or,Bool.and_eq_true,List.any_eq_true] at this
  obtain ⟨hn,y,hy,he⟩:=this
  obtain ⟨k,hk,rfl⟩:=List.getElem_of_mem hy
  have:=h k hk
  rw [he,hn] at this
  exact absurd this (by decide)
theorem sgn_none:sgn 0 0 ⟨#[]⟩=⟨#[110,111,110,101]⟩:=by rw [sgn_other (by decide)];simp [txt,okV,emB,ByteArray.toList_eq]
set_option maxHeartbeats 2000000 in
theorem reserved_any (g:Nat) (s:ByteArray) (w:World) (hT:TabT w g) (ht:Tab w) (hs:s.size≤maxLen) :
  Calls Tryz.prog 138 #[.slice (some ⟨g,0,none⟩) 34 34,.string s] w fun e w'=>e=.returned (.bool (resB s))∧Below w.heap.size w w':=by
 have HG:Hid (sgn 0 0 ⟨#[]⟩=⟨#[110,111,110,101]⟩):=sgn_none
 have hlit:(⟨#[110,111,110,101]⟩:ByteArray).toList=[110,111,110,101]:=lit_list [110,111,110,101]
 cases hq:(s.toList == [110,111,110,101])
 ·have hq2:(s.toList == (⟨#[110,111,110,101]⟩:ByteArray).toList)=false:=by rw [hlit];exact hq
  have HQ:Hid ((s.toList == [110,111,110,101])=false):=hq
  clear hlit
  go_enter Tryz.func138,Tryz.ntmps138
  go_wp2_with fail
  refine (signOfI_any 0 0 ⟨#[]⟩ _ (by decide) ht).mono ?_
  rintro e w1 ⟨rfl,hb1⟩
  rw [HG.out]
  have hT1:=hT.call hb1
  go_wp2
  go_loopw [13] (fun v wr=>∃ k:Nat,k≤34∧v=.int .i64 (k:Int)∧Below w1.heap.size w1 wr∧Hid (∀ j (hj:j < tabL.length),j < k→((headV tabL[j]).toList == s.toList && nameB s)=false)) (fun v _=>34 - (intOf v).toNat)
  case atStart=>exact ⟨0,by omega,rfl,Below.refl _ _,fun j _ hj=>absurd hj (Nat.not_lt_zero _)⟩
  case round =>
   obtain ⟨k,hk,rfl,hB,HA⟩:=hrel
   by_cases hkl:k < 34
   ·obtain ⟨c0,c1,c2⟩:=hT1.2 k hkl
    have hg:=hT1.1
    have d0:=(hB.cell (p:=⟨g,k * 3,none⟩) hg).trans c0
    have d1:=(hB.cell (p:=⟨g,k * 3+1,none⟩) hg).trans c1
    have d2:=(hB.cell (p:=⟨g,k * 3+2,none⟩) hg).trans c2
    clear c0 c1 c2 hq hq2
    have HR:Hid (((headV (tabL[k]'hkl)).toList == s.toList && nameB s)=false→∀ j (hj:j < tabL.length),j < k+1→((headV tabL[j]).toList == s.toList && nameB s)=false):=fun hx j hj hjk=>by
     by_cases e:j=k
     ·subst e;exact hx
     ·exact HA.out j hj (by omega)
    have HY:Hid (((headV (tabL[k]'hkl)).toList == s.toList)=true→nameB s=true→resB s=true):=fun h1 h2=>res_head hkl h1 h2
    generalize headV (tabL[k]'hkl)=x at d0 HR HY
    generalize (tabL[k]'hkl).1.2.1=kk at d1
    generalize (tabL[k]'hkl).2=fn at d2
    cases he:(x.toList == s.toList)
    ·have HN:Hid (∀ j (hj:j < tabL.length),j < k+1→((headV tabL[j]).toList == s.toList && nameB s)=false):=HR.out (by rw [he];rfl)
     clear HR HY
     go_wp2
     go_roundw
     case rel=>exact ⟨k+1,by omega,by go_num,(by repeat' (first | (with_reducible exact Below.refl _ _) | (with_reducible refine Below.drew ?_) | (with_reducible refine balloc ?_ _) | (with_reducible refine bset ?_ _ ?_) | (with_reducible assumption) | (with_reducible refine bstep ?_ (by with_reducible assumption)) | go_size)),HN.out⟩
     case measure=>simp [intOf];omega
    ·cases hn:nameB s
     ·have HM:Hid (nameB s=false):=hn
      clear HR HY hn
      go_wp2_with fail
      refine (nameOkI_any s _ hs).mono ?_
      rintro e w2 ⟨rfl,rfl⟩
      rw [HM.out]
      go_wp2
      go_roundw
      case rel=>exact ⟨k+1,by omega,by go_num,(by repeat' (first | (with_reducible exact Below.refl _ _) | (with_reducible refine Below.drew ?_) | (with_reducible refine balloc ?_ _) | (with_reducible refine bset ?_ _ ?_) | (with_reducible assumption) | (with_reducible refine bstep ?_ (by with_reducible assumption)) | go_size)),fun j hj _=>Bool.and_false _⟩
      case measure=>simp [intOf];omega
     ·have HZ:Hid (resB s=true):=HY.out he hn
      have HM:Hid (nameB s=true):=hn
      clear HR HY hn
      go_wp2_with fail
      refine (nameOkI_any s _ hs).mono ?_
      rintro e w2 ⟨rfl,rfl⟩
      rw [HM.out]
      go_wp2
      go_ret
      exact ⟨by rw [HZ.out];rfl,(by repeat' (first | (with_reducible exact Below.refl _ _) | (with_reducible refine Below.drew ?_) | (with_reducible refine balloc ?_ _) | (with_reducible refine bset ?_ _ ?_) | (with_reducible refine bstep ?_ (by with_reducible assumption)) | go_size))⟩
   ·have HZ:Hid (resB s=false):=res_not HQ.out fun j hj=>HA.out j hj (by have:=tab_len;omega)
    clear hq hq2
    go_wp2
    go_ret
    exact ⟨by rw [HZ.out];rfl,bstep hb1 hB⟩
 ·have hq2:(s.toList == (⟨#[110,111,110,101]⟩:ByteArray).toList)=true:=by rw [hlit];exact hq
  have HZ:Hid (resB s=true):=res_none hq
  clear hlit
  go_enter Tryz.func138,Tryz.ntmps138
  go_wp2_with fail
  refine (signOfI_any 0 0 ⟨#[]⟩ _ (by decide) ht).mono ?_
  rintro e w1 ⟨rfl,hb1⟩
  rw [HG.out]
  go_wp2
  go_ret
  exact ⟨by rw [HZ.out];rfl,hb1⟩
set_option maxHeartbeats 1000000 in
theorem nameFits_any (g:Nat) (s:ByteArray) (w:World) (hT:TabT w g) (ht:Tab w) (hs:s.size≤maxLen) :
  Calls Tryz.prog 116 #[.slice (some ⟨g,0,none⟩) 34 34,.string s] w fun e w'=>e=.returned (.bool (nmB s))∧Below w.heap.size w w':=by
 cases hn:nameB s
 ·have HN:Hid (nameB s=false):=hn
  have HB:Hid (nmB s=false):=(by unfold nmB;rw [hn];rfl:nmB s=false)
  clear hn
  go_enter Tryz.func116,Tryz.ntmps116
  go_wp2_with fail
  refine (nameOkI_any s _ hs).mono ?_
  rintro e w1 ⟨rfl,rfl⟩
  rw [HN.out]
  go_wp2
  go_ret
  exact ⟨by rw [HB.out];rfl,Below.refl _ _⟩
 ·have HN:Hid (nameB s=true):=hn
  have HB:Hid (nmB s=!resB s):=(by unfold nmB;rw [hn];rfl:nmB s=!resB s)
  clear hn
  go_enter Tryz.func116,Tryz.ntmps116
  go_wp2_with fail
  refine (nameOkI_any s _ hs).mono ?_
  rintro e w1 ⟨rfl,rfl⟩
  rw [HN.out]
  go_wp2_with fail
  refine (reserved_any g s _ hT ht hs).mono ?_
  rintro e w2 ⟨rfl,hb⟩
  generalize resB s=q at HB ⊢
  go_wp2
  go_ret
  exact ⟨by rw [HB.out];rfl,hb⟩
theorem one_vi (s:ByteArray):oneB s=(viB s || nmB s):=by
 unfold oneB viB noneB isW
 rfl
set_option maxHeartbeats 1000000 in
theorem fitsAlone_any (g:Nat) (s:ByteArray) (q:Nat) (w:World) (hT:TabT w g) (ht:Tab w) (hs:s.size≤maxLen) :
  Calls Tryz.prog 83 #[.slice (some ⟨g,0,none⟩) 34 34,.string s,.int .i64 (q:Int)] w fun e w'=>e=.returned (.bool (aloneB s q))∧Below w.heap.size w w':=by
 by_cases h1:q=1
 ·subst h1
  have e1:=one_vi s
  cases hv:viB s
  ·have HA:Hid (aloneB s 1=nmB s):=(by show oneB s=nmB s;rw [e1,hv];rfl:aloneB s 1=nmB s)
   have HV:Hid (viB s=false):=hv
   clear hv e1
   go_enter Tryz.func83,Tryz.ntmps83
   go_wp2_with fail
   refine (valueInI_any s _ hs ht).mono ?_
   rintro e w1 ⟨rfl,hb1⟩
   rw [HV.out]
   generalize viK s=tk
   generalize viN s=tn
   generalize viT s=tt
   have hW:Below w1.heap.size w1 (w1.alloc (.cells #[.int .i64 tk,.int .i64 tn,.string tt] 116)):=balloc (Below.refl _ _) _
   have hB:=bstep hb1 hW
   go_wp2_with fail
   refine (nameFits_any g s _ (hT.call hB) (tab_call ht hB) hs).mono ?_
   rintro e w2 ⟨rfl,hb2⟩
   generalize nmB s=n at HA ⊢
   go_wp2
   go_ret
   exact ⟨by rw [HA.out];rfl,bstep hB hb2⟩
  ·have HA:Hid (aloneB s 1=true):=(by show oneB s=true;rw [e1,hv];rfl:aloneB s 1=true)
   have HV:Hid (viB s=true):=hv
   clear hv e1
   go_enter Tryz.func83,Tryz.ntmps83
   go_wp2_with fail
   refine (valueInI_any s _ hs ht).mono ?_
   rintro e w1 ⟨rfl,hb1⟩
   rw [HV.out]
   generalize viK s=tk
   generalize viN s=tn
   generalize viT s=tt
   go_wp2
   go_ret
   exact ⟨by rw [HA.out];rfl,(by repeat' (first | (with_reducible exact Below.refl _ _) | (with_reducible refine Below.drew ?_) | (with_reducible refine balloc ?_ _) | (with_reducible refine bset ?_ _ ?_) | (with_reducible assumption) | (with_reducible refine bstep ?_ (by with_reducible assumption)) | go_size))⟩
 have b1:((q:Int) == 1)=false:=by simp;omega
 by_cases h46:q=4∨q=6
 ·have HA:Hid (aloneB s q=nmB s):=(by unfold aloneB;rw [if_neg h1,if_pos h46]:aloneB s q=nmB s)
  rcases h46 with rfl | rfl
  ·clear h1 b1
   go_enter Tryz.func83,Tryz.ntmps83
   go_wp2_with fail
   refine (nameFits_any g s _ hT ht hs).mono ?_
   rintro e w2 ⟨rfl,hb2⟩
   generalize nmB s=n at HA ⊢
   go_wp2
   go_ret
   exact ⟨by rw [HA.out];rfl,hb2⟩
  ·clear h1 b1
   go_enter Tryz.func83,Tryz.ntmps83
   go_wp2_with fail
   refine (nameFits_any g s _ hT ht hs).mono ?_
   rintro e w2 ⟨rfl,hb2⟩
   generalize nmB s=n at HA ⊢
   go_wp2
   go_ret
   exact ⟨by rw [HA.out];rfl,hb2⟩
 ·have HA:Hid (aloneB s q=false):=(by unfold aloneB;rw [if_neg h1,if_neg h46]:aloneB s q=false)
  have b4:((q:Int) == 4)=false:=by simp;omega
  have b6:((q:Int) == 6)=false:=by simp;omega
  clear h1 h46
  go_enter Tryz.func83,Tryz.ntmps83
  go_wp2
  go_ret
  exact ⟨by rw [HA.out];rfl,Below.refl _ _⟩
end Go.Proofs.YtdgihicpjonjgaaGreatDoor
