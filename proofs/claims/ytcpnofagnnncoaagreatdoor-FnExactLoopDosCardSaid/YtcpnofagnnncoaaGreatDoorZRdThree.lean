/-
  RdThree: RdH, RdI, RdJ, RdK, RdM, in one text.
-/
import Derived.Test.YtcpnofagnnncoaaGreatDoorZRdTwo
import Derived.Test.YtcpnofagnnncoaaGreatDoorZTabsN
import Derived.Deep.RegionWith
/-
  Chapter 5: what is met at each word; a sign alone, read by the program.
-/
namespace Go.Proofs.YtcpnofagnnncoaaGreatDoor
open Go.RowKit

section
variable {L : List ByteArray} {i : Int} (r : Nat → Bool → Int → Kn → Ot) (K : Kn)
theorem itw_alone (ho : isW (sgAt L i) [40] = false) : itemO L r i K = if nmB (sgAt L i) then useO K (sgAt L i) else Ot.none := by
  unfold itemO
  rw [ho]
  rfl
theorem itw_hidden (ho : isW (sgAt L i) [40] = true) (hc : isW (sgAt L (i + 1)) [104, 105, 100, 100, 101, 110] = true) : itemO L r i K = Ot.none := by
  unfold itemO
  rw [ho, isW_eq hc]
  simp [isW_lit]
theorem itw_vars (ho : isW (sgAt L i) [40] = true) (hc : isW (sgAt L (i + 1)) [118, 97, 114, 115] = true) : itemO L r i K = Ot.none := by
  unfold itemO
  rw [ho, isW_eq hc]
  simp [isW_lit]
theorem itw_let (ho : isW (sgAt L i) [40] = true) (hc : isW (sgAt L (i + 1)) [108, 101, 116] = true) : itemO L r i K = r 0 false (i + 3) K := by
  unfold itemO
  rw [ho, isW_eq hc]
  simp [isW_lit]
theorem itw_take (ho : isW (sgAt L i) [40] = true) (hc : isW (sgAt L (i + 1)) [116, 97, 107, 101] = true) : itemO L r i K = r 0 false (itemE L (i + 2)) K := by
  unfold itemO
  rw [ho, isW_eq hc]
  simp [isW_lit]
theorem itw_set (ho : isW (sgAt L i) [40] = true) (hc : isW (sgAt L (i + 1)) [115, 101, 116] = true) : itemO L r i K = (useO K (sgAt L (i + 2))).add (r 0 false (i + 3) K) := by
  unfold itemO
  rw [ho, isW_eq hc]
  simp [isW_lit]
theorem itw_hget (ho : isW (sgAt L i) [40] = true) (hc : isW (sgAt L (i + 1)) [104, 103, 101, 116] = true) : itemO L r i K = (hideO K (sgAt L (i + 2))).add (outs (fun p => r 0 false p K) (plc L (i + 3))) := by
  unfold itemO
  rw [ho, isW_eq hc]
  simp [isW_lit]
theorem itw_hput (ho : isW (sgAt L i) [40] = true) (hc : isW (sgAt L (i + 1)) [104, 112, 117, 116] = true) : itemO L r i K = (hideO K (sgAt L (i + 2))).add (outs (fun p => r 0 false p K) (plc L (i + 3))) := by
  unfold itemO
  rw [ho, isW_eq hc]
  simp [isW_lit]
theorem itw_fn (ho : isW (sgAt L i) [40] = true) (hc : isW (sgAt L (i + 1)) [102, 110] = true) : itemO L r i K = fnO L r i K := by
  unfold itemO
  rw [ho, isW_eq hc]
  simp [isW_lit]
theorem itw_do (ho : isW (sgAt L i) [40] = true) (hc : isW (sgAt L (i + 1)) [100, 111] = true) : itemO L r i K = r 1 false (i + 2) K := by
  unfold itemO
  rw [ho, isW_eq hc]
  simp [isW_lit]
theorem itw_while (ho : isW (sgAt L i) [40] = true) (hc : isW (sgAt L (i + 1)) [119, 104, 105, 108, 101] = true) : itemO L r i K = (r 0 false (i + 2) K).add (r 0 false (itemE L (i + 2)) (inLoop K true)) := by
  unfold itemO
  rw [ho, isW_eq hc]
  simp [isW_lit]
theorem itw_for (ho : isW (sgAt L i) [40] = true) (hc : isW (sgAt L (i + 1)) [102, 111, 114] = true) : itemO L r i K = (r 0 false (i + 3) K).add ((r 0 false (itemE L (i + 3)) K).add (r 0 false (itemE L (itemE L (i + 3))) (addN (inLoop K true) [sgAt L (i + 2)]))) := by
  unfold itemO
  rw [ho, isW_eq hc]
  simp [isW_lit]
theorem itw_leave (ho : isW (sgAt L i) [40] = true) (hc : isW (sgAt L (i + 1)) [108, 101, 97, 118, 101] = true) : itemO L r i K = badO (!K.lp) := by
  unfold itemO
  rw [ho, isW_eq hc]
  simp [isW_lit, badO]
theorem itw_next (ho : isW (sgAt L i) [40] = true) (hc : isW (sgAt L (i + 1)) [110, 101, 120, 116] = true) : itemO L r i K = badO (!K.lp) := by
  unfold itemO
  rw [ho, isW_eq hc]
  simp [isW_lit, badO]
theorem itw_rest (ho : isW (sgAt L i) [40] = true) (hhidden : isW (sgAt L (i + 1)) [104, 105, 100, 100, 101, 110] = false) (hvars : isW (sgAt L (i + 1)) [118, 97, 114, 115] = false) (hlet : isW (sgAt L (i + 1)) [108, 101, 116] = false) (htake : isW (sgAt L (i + 1)) [116, 97, 107, 101] = false) (hset : isW (sgAt L (i + 1)) [115, 101, 116] = false) (hhget : isW (sgAt L (i + 1)) [104, 103, 101, 116] = false) (hhput : isW (sgAt L (i + 1)) [104, 112, 117, 116] = false) (hfn : isW (sgAt L (i + 1)) [102, 110] = false) (hdo : isW (sgAt L (i + 1)) [100, 111] = false) (hwhile : isW (sgAt L (i + 1)) [119, 104, 105, 108, 101] = false) (hfor : isW (sgAt L (i + 1)) [102, 111, 114] = false) (hleave : isW (sgAt L (i + 1)) [108, 101, 97, 118, 101] = false) (hnext : isW (sgAt L (i + 1)) [110, 101, 120, 116] = false) : itemO L r i K = outs (fun p => r 0 false p K) (plc L (i + 2)) := by
  unfold itemO
  rw [ho, hhidden, hvars, hlet, htake, hset, hhget, hhput, hfn, hdo, hwhile, hfor, hleave, hnext]
  simp
end
theorem alone_one {L : List ByteArray} {i : Int} (h : ItV L i) (ho : isW (sgAt L i) [40] = false) : oneB (sgAt L i) = true := by
  rcases h with h | h
  · rw [fm_sum] at h
    unfold sumS at h
    rw [ho] at h
    by_cases h1 : oneB (sgAt L i) = true
    · exact h1
    · rw [if_neg (by decide), if_neg h1] at h
      exact absurd rfl h
  · have := deed_open h
    rw [ho] at this
    cases this
theorem vi_not_nm {s : ByteArray} (h : viB s = true) : nmB s = false := by
  have key : nameB s = true → resB s = true := fun hn => by
    have h2 := kind_name ((nameB_iff s).mp hn)
    unfold viB at h
    rw [Bool.or_eq_true, Bool.or_eq_true] at h
    rcases h with (h | h) | h
    · have := kind_numer ((numerB_iff s).mp h)
      omega
    · have := kind_quot ((quotB_iff s).mp h)
      omega
    · exact res_none h
  unfold nmB
  cases hn : nameB s
  · rfl
  · rw [key hn]
    rfl

set_option maxHeartbeats 2000000 in
theorem readAlone_any (S : Nat → Prop) (c : Nat) (a : Option Addr) (cap : Nat) (L : List ByteArray) (E : Blks) (lp : Bool) (F : Ot) (U : Nat) (i : Int) (w : World) (h : St S c a cap L E F U w) (hL : L.length ≤ 2000) (hv : ItV L i) (ho : isW (sgAt L i) [40] = false) (hU : (U : Int) ≤ i) :
    Calls Tryz.prog 137 #[.pointer (some ⟨c, 0, none⟩), .int .i64 i] w fun e w' => e = .returned (.tuple #[]) ∧ ∃ S' U', St S' c a cap L E (F.add (if nmB (sgAt L i) then useO (knE E lp) (sgAt L i) else Ot.none)) U' w' ∧ Nxt S S' w w' ∧ (U' : Int) ≤ itemE L i := by
  have hend := hv.ends
  have hone := alone_one hv ho
  have e1 := one_vi (sgAt L i)
  have HUSE : Hid (∀ W, St S c a cap L E F U W → Calls Tryz.prog 138 #[.pointer (some ⟨c, 0, none⟩), .int .i64 i, .bool false] W fun e w' => e = .returned (.tuple #[]) ∧ ∃ S', St S' c a cap L E (F.add (usO false E (sgAt L i))) (U + 1) w' ∧ Nxt S S' W w') := fun W hW => use_any S c a cap L E F U i false W hW (by omega) (by omega) (by omega)
  obtain ⟨⟨x, hM, hS⟩, hA⟩ := id h
  obtain ⟨sb, off, rfl, hsc, hsm, hsz, hsn⟩ := hA.at (i := i) (by omega) (by omega)
  obtain ⟨ii, rfl⟩ : ∃ ii : Nat, i = (ii : Int) := ⟨i.toNat, by omega⟩
  have hsc' : w.cell? ⟨sb, off + ii, none⟩ = some (.string (sgAt L (ii : Int))) := hsc
  have hc0 := hM.c0
  have ht := hA.tab
  have hi1 : (ii : Int) < (L.length : Int) := by omega
  clear hsc hM hS
  cases hvi : viB (sgAt L (ii : Int))
  · have hnm : nmB (sgAt L (ii : Int)) = true := by rw [e1, hvi, Bool.false_or] at hone; exact hone
    have HF : Hid ((if nmB (sgAt L (ii : Int)) then useO (knE E lp) (sgAt L (ii : Int)) else Ot.none) = usO false E (sgAt L (ii : Int))) := (by rw [hnm]; rfl : (if nmB (sgAt L (ii : Int)) then useO (knE E lp) (sgAt L (ii : Int)) else Ot.none) = usO false E (sgAt L (ii : Int)))
    have HV : Hid (viB (sgAt L (ii : Int)) = false) := hvi
    rw [HF.out]
    clear hvi hnm HF e1 hone
    generalize hsg : sgAt L (ii : Int) = s at *
    clear hsg
    go_enter Tryz.func137, Tryz.ntmps137
    go_wp2_with fail
    refine (valueInI_any s _ hsm ht).mono ?_
    rintro e w1 ⟨rfl, hb1⟩
    rw [HV.out]
    generalize viK s = tk
    generalize viN s = tn
    generalize viT s = tt
    have hW : Below w1.heap.size w1 (w1.alloc (.cells #[.int .i64 tk, .int .i64 tn, .string tt] 118)) := balloc (Below.refl _ _) _
    have hB := bstep hb1 hW
    have hSt := h.call hB
    clear h
    go_wp2_with fail
    refine (HUSE.out _ hSt).mono ?_
    rintro e w2 ⟨rfl, S2, hSt2, hN2⟩
    have hN := (Nxt.of_below S hB).trans hN2
    go_wp2
    go_end0
    exact ⟨rfl, S2, U + 1, hSt2, hN, by omega⟩
  · have HF : Hid (F.add (if nmB (sgAt L (ii : Int)) then useO (knE E lp) (sgAt L (ii : Int)) else Ot.none) = F) := (by rw [vi_not_nm hvi]; exact Ot.add_none F : F.add (if nmB (sgAt L (ii : Int)) then useO (knE E lp) (sgAt L (ii : Int)) else Ot.none) = F)
    have HV : Hid (viB (sgAt L (ii : Int)) = true) := hvi
    rw [HF.out]
    clear hvi HF e1 hone HUSE
    generalize hsg : sgAt L (ii : Int) = s at *
    clear hsg
    go_enter Tryz.func137, Tryz.ntmps137
    go_wp2_with fail
    refine (valueInI_any s _ hsm ht).mono ?_
    rintro e w1 ⟨rfl, hb1⟩
    rw [HV.out]
    generalize viK s = tk
    generalize viN s = tn
    generalize viT s = tt
    have hW : Below w1.heap.size w1 (w1.alloc (.cells #[.int .i64 tk, .int .i64 tn, .string tt] 118)) := balloc (Below.refl _ _) _
    have hB := bstep hb1 hW
    have hSt := h.call hB
    clear h
    go_wp2
    go_end0
    exact ⟨rfl, S, U, hSt, Nxt.of_below S hB, by omega⟩
end Go.Proofs.YtcpnofagnnncoaaGreatDoor

/-
  Chapter 5, the program: an item is read, word by word.
-/
namespace Go.Proofs.YtcpnofagnnncoaaGreatDoor
open Go.RowKit

set_option maxRecDepth 100000 in
set_option maxHeartbeats 8000000 in
theorem read_hidden {a : Option Addr} {cap : Nat} {L : List ByteArray} {c n : Nat} (_hR : ReadC a cap L c n) (_hK : RBlkC a cap L c n) (hL : L.length ≤ 2000) (hsg : signsB L = true) (S : Nat → Prop) (E : Blks) (lp : Bool) (F : Ot) (U : Nat) (i : Int) (w : World) (h : St S c a cap L E F U w) (hv : ItV L i) (ho : isW (sgAt L i) [40] = true) (hc : isW (sgAt L (i + 1)) [104, 105, 100, 100, 101, 110] = true) (_hn : 2 * farN L i + 1 ≤ n + 1) (_hE : E.length + (n + 1) ≤ 20000) (hU : (U : Int) ≤ i) :
    Calls Tryz.prog 115 #[.pointer (some ⟨c, 0, none⟩), .int .i64 i, .bool lp] w fun r w' => r = .returned (.tuple #[]) ∧ ∃ S' U', St S' c a cap L E (F.add (wk L (n + 1) 0 false i (knE E lp))) U' w' ∧ Nxt S S' w w' ∧ (U' : Int) ≤ itemE L i := by
  have hends := hv.ends
  obtain ⟨hit, k, e, hch, he0, he1, he, hie⟩ := hv.parts ho
  have hke := chI_ends k _ hch he0
  have HW : Hid (wk L (n + 1) 0 false i (knE E lp) = Ot.none) := itw_hidden (wk L n) (knE E lp) ho hc
  have HF : Hid (F.add (wk L (n + 1) 0 false i (knE E lp)) = F) := (by rw [HW.out]; exact Ot.add_none F : F.add (wk L (n + 1) 0 false i (knE E lp)) = F)
  rw [HF.out]
  clear HW HF
  have HPP : Hid (∀ W, ArgT W a L → Calls Tryz.prog 113 #[.slice a L.length cap, .int .i64 i] W fun r W' => ∃ av cv, r = .returned (.slice av k cv) ∧ k ≤ cv ∧ RowN W.heap.size W' av (chainP L k (i + 2)) ∧ Below W.heap.size W W') := fun W hA => partsOf_any _ cap L _ e k (by omega) hsg hv ho hch he0 he1 he W hA
  have bhidden : ((sgAt L (i + 1)).toList == [104, 105, 100, 100, 101, 110]) = true := hc
  have b40 : ((sgAt L i).toList == [40]) = true := ho
  obtain ⟨⟨x, hM, hS⟩, hA⟩ := id h
  obtain ⟨sb, off, rfl, hsc, hsm, hsz, hsn⟩ := hA.at (i := i) (by omega) (by omega)
  obtain ⟨sb1, off1, hsa, hsc1, hsm1, hsz1, hsn1⟩ := hA.at (i := i + 1) (by omega) (by omega)
  injection hsa with hsa
  injection hsa with ea eb _
  subst ea eb
  have hc0 := hM.c0
  have hlow := hM.low
  have hAT := hA.arg
  obtain ⟨ii, hii⟩ : ∃ ii : Nat, i = (ii : Int) := ⟨i.toNat, by omega⟩
  have hwr : IntKind.i64.wrap (i + 1) = i + 1 := IntWalk.i64_in _ (by omega)
  have hp0 : (0 : Int) ≤ i + 1 := by omega
  have hp1 : i + 1 < (L.length : Int) := by omega
  have hq0 : (0 : Int) ≤ i := by omega
  have hq1 : i < (L.length : Int) := by omega
  clear hii hM hS hit hke
  generalize hg40 : sgAt L i = s40 at hsc hsm b40
  generalize hg1 : sgAt L (i + 1) = s1 at hsc1 hsm1 bhidden
  clear hg40 hg1 hc ho
  go_enter Tryz.func115, Tryz.ntmps115
  go_wp2_with fail
  refine (HPP.out _ hAT).mono ?_
  rintro r w1 ⟨av, cv, rfl, hcv, hRN, hB1⟩
  have hSt1 := h.call hB1
  have hN1 := Nxt.of_below S hB1
  have hc01 := (hB1.cell (p := ⟨c, 0, none⟩) (by obtain ⟨⟨x, hM, _⟩, _⟩ := h; exact hM.lt)).trans hc0
  have hsc11 := (hB1.cell (p := ⟨sb, off + (i + 1).toNat, none⟩) hsz1).trans hsc1
  have hRI := hRN.row (fun k hk => (hlow k hk).2)
  clear hRN HPP hc0 hsc hsc1 h hAT hA hlow hB1
  clear hRI
  go_wp2
  go_end0
  exact ⟨rfl, S, U, hSt1, hN1, by omega⟩

set_option maxRecDepth 100000 in
set_option maxHeartbeats 8000000 in
theorem read_vars {a : Option Addr} {cap : Nat} {L : List ByteArray} {c n : Nat} (_hR : ReadC a cap L c n) (_hK : RBlkC a cap L c n) (hL : L.length ≤ 2000) (hsg : signsB L = true) (S : Nat → Prop) (E : Blks) (lp : Bool) (F : Ot) (U : Nat) (i : Int) (w : World) (h : St S c a cap L E F U w) (hv : ItV L i) (ho : isW (sgAt L i) [40] = true) (hc : isW (sgAt L (i + 1)) [118, 97, 114, 115] = true) (_hn : 2 * farN L i + 1 ≤ n + 1) (_hE : E.length + (n + 1) ≤ 20000) (hU : (U : Int) ≤ i) :
    Calls Tryz.prog 115 #[.pointer (some ⟨c, 0, none⟩), .int .i64 i, .bool lp] w fun r w' => r = .returned (.tuple #[]) ∧ ∃ S' U', St S' c a cap L E (F.add (wk L (n + 1) 0 false i (knE E lp))) U' w' ∧ Nxt S S' w w' ∧ (U' : Int) ≤ itemE L i := by
  have hends := hv.ends
  obtain ⟨hit, k, e, hch, he0, he1, he, hie⟩ := hv.parts ho
  have hke := chI_ends k _ hch he0
  have HW : Hid (wk L (n + 1) 0 false i (knE E lp) = Ot.none) := itw_vars (wk L n) (knE E lp) ho hc
  have HF : Hid (F.add (wk L (n + 1) 0 false i (knE E lp)) = F) := (by rw [HW.out]; exact Ot.add_none F : F.add (wk L (n + 1) 0 false i (knE E lp)) = F)
  rw [HF.out]
  clear HW HF
  have HPP : Hid (∀ W, ArgT W a L → Calls Tryz.prog 113 #[.slice a L.length cap, .int .i64 i] W fun r W' => ∃ av cv, r = .returned (.slice av k cv) ∧ k ≤ cv ∧ RowN W.heap.size W' av (chainP L k (i + 2)) ∧ Below W.heap.size W W') := fun W hA => partsOf_any _ cap L _ e k (by omega) hsg hv ho hch he0 he1 he W hA
  have bhidden : ((sgAt L (i + 1)).toList == [104, 105, 100, 100, 101, 110]) = false := isW_other hc (by decide)
  have bvars : ((sgAt L (i + 1)).toList == [118, 97, 114, 115]) = true := hc
  have b40 : ((sgAt L i).toList == [40]) = true := ho
  obtain ⟨⟨x, hM, hS⟩, hA⟩ := id h
  obtain ⟨sb, off, rfl, hsc, hsm, hsz, hsn⟩ := hA.at (i := i) (by omega) (by omega)
  obtain ⟨sb1, off1, hsa, hsc1, hsm1, hsz1, hsn1⟩ := hA.at (i := i + 1) (by omega) (by omega)
  injection hsa with hsa
  injection hsa with ea eb _
  subst ea eb
  have hc0 := hM.c0
  have hlow := hM.low
  have hAT := hA.arg
  obtain ⟨ii, hii⟩ : ∃ ii : Nat, i = (ii : Int) := ⟨i.toNat, by omega⟩
  have hwr : IntKind.i64.wrap (i + 1) = i + 1 := IntWalk.i64_in _ (by omega)
  have hp0 : (0 : Int) ≤ i + 1 := by omega
  have hp1 : i + 1 < (L.length : Int) := by omega
  have hq0 : (0 : Int) ≤ i := by omega
  have hq1 : i < (L.length : Int) := by omega
  clear hii hM hS hit hke
  generalize hg40 : sgAt L i = s40 at hsc hsm b40
  generalize hg1 : sgAt L (i + 1) = s1 at hsc1 hsm1 bhidden bvars
  clear hg40 hg1 hc ho
  go_enter Tryz.func115, Tryz.ntmps115
  go_wp2_with fail
  refine (HPP.out _ hAT).mono ?_
  rintro r w1 ⟨av, cv, rfl, hcv, hRN, hB1⟩
  have hSt1 := h.call hB1
  have hN1 := Nxt.of_below S hB1
  have hc01 := (hB1.cell (p := ⟨c, 0, none⟩) (by obtain ⟨⟨x, hM, _⟩, _⟩ := h; exact hM.lt)).trans hc0
  have hsc11 := (hB1.cell (p := ⟨sb, off + (i + 1).toNat, none⟩) hsz1).trans hsc1
  have hRI := hRN.row (fun k hk => (hlow k hk).2)
  clear hRN HPP hc0 hsc hsc1 h hAT hA hlow hB1
  clear hRI
  go_wp2
  go_end0
  exact ⟨rfl, S, U, hSt1, hN1, by omega⟩

set_option maxRecDepth 100000 in
set_option maxHeartbeats 8000000 in
theorem read_let {a : Option Addr} {cap : Nat} {L : List ByteArray} {c n : Nat} (hR : ReadC a cap L c n) (_hK : RBlkC a cap L c n) (hL : L.length ≤ 2000) (hsg : signsB L = true) (S : Nat → Prop) (E : Blks) (lp : Bool) (F : Ot) (U : Nat) (i : Int) (w : World) (h : St S c a cap L E F U w) (hv : ItV L i) (ho : isW (sgAt L i) [40] = true) (hc : isW (sgAt L (i + 1)) [108, 101, 116] = true) (hn : 2 * farN L i + 1 ≤ n + 1) (hE : E.length + (n + 1) ≤ 20000) (hU : (U : Int) ≤ i) :
    Calls Tryz.prog 115 #[.pointer (some ⟨c, 0, none⟩), .int .i64 i, .bool lp] w fun r w' => r = .returned (.tuple #[]) ∧ ∃ S' U', St S' c a cap L E (F.add (wk L (n + 1) 0 false i (knE E lp))) U' w' ∧ Nxt S S' w w' ∧ (U' : Int) ≤ itemE L i := by
  have hends := hv.ends
  obtain ⟨hit, k, e, hch, he0, he1, he, hie⟩ := hv.parts ho
  have hke := chI_ends k _ hch he0
  have HW : Hid (wk L (n + 1) 0 false i (knE E lp) = wk L n 0 false (i + 3) (knE E lp)) := itw_let (wk L n) (knE E lp) ho hc
  obtain ⟨n1, n2, n3, n4⟩ := hv.name_sum ho _ hc (Or.inl rfl)
  have hx2 : itemE L (i + 2) = i + 3 := by rw [item_one (by omega) (by omega) (nm_plain n1)]; omega
  have n5 := n3.ends
  have hP : chainP L k (i + 2) = (i + 2) :: (i + 3) :: chainP L (k - 2) (itemE L (i + 3)) ∧ 2 ≤ k := by
    obtain ⟨k1, rfl, _, q1⟩ := chI_next hch (by omega)
    rw [hx2] at q1
    obtain ⟨k2, rfl, _, _⟩ := chI_next q1 (by omega)
    exact ⟨by rw [chainP_succ, hx2, chainP_succ]; rfl, by omega⟩
  obtain ⟨hP1, hk2⟩ := hP
  have HP : Hid (chainP L k (i + 2) = (i + 2) :: (i + 3) :: chainP L (k - 2) (itemE L (i + 3))) := hP1
  clear hP1
  have hf := farR_lt (L := L) hends.1 (by omega : i < i + 3) (by omega)
  have HC : Hid (∀ W, St S c a cap L E F U W → Calls Tryz.prog 115 #[.pointer (some ⟨c, 0, none⟩), .int .i64 (i + 3), .bool lp] W fun r w' => r = .returned (.tuple #[]) ∧ ∃ S' U', St S' c a cap L E (F.add (wk L (n + 1) 0 false i (knE E lp))) U' w' ∧ Nxt S S' W w' ∧ (U' : Int) ≤ itemE L (i + 3)) := fun W hW => by
    rw [HW.out]
    exact hR S E lp F U (i + 3) W hW n3 (by omega) (by omega) (by omega)
  have hk1 : (1 : Int) < (k : Int) := by omega
  clear HW n1 n3 hx2 hf
  have HPP : Hid (∀ W, ArgT W a L → Calls Tryz.prog 113 #[.slice a L.length cap, .int .i64 i] W fun r W' => ∃ av cv, r = .returned (.slice av k cv) ∧ k ≤ cv ∧ RowN W.heap.size W' av (chainP L k (i + 2)) ∧ Below W.heap.size W W') := fun W hA => partsOf_any _ cap L _ e k (by omega) hsg hv ho hch he0 he1 he W hA
  have bhidden : ((sgAt L (i + 1)).toList == [104, 105, 100, 100, 101, 110]) = false := isW_other hc (by decide)
  have bvars : ((sgAt L (i + 1)).toList == [118, 97, 114, 115]) = false := isW_other hc (by decide)
  have blet : ((sgAt L (i + 1)).toList == [108, 101, 116]) = true := hc
  have b40 : ((sgAt L i).toList == [40]) = true := ho
  obtain ⟨⟨x, hM, hS⟩, hA⟩ := id h
  obtain ⟨sb, off, rfl, hsc, hsm, hsz, hsn⟩ := hA.at (i := i) (by omega) (by omega)
  obtain ⟨sb1, off1, hsa, hsc1, hsm1, hsz1, hsn1⟩ := hA.at (i := i + 1) (by omega) (by omega)
  injection hsa with hsa
  injection hsa with ea eb _
  subst ea eb
  have hc0 := hM.c0
  have hlow := hM.low
  have hAT := hA.arg
  obtain ⟨ii, hii⟩ : ∃ ii : Nat, i = (ii : Int) := ⟨i.toNat, by omega⟩
  have hwr : IntKind.i64.wrap (i + 1) = i + 1 := IntWalk.i64_in _ (by omega)
  have hp0 : (0 : Int) ≤ i + 1 := by omega
  have hp1 : i + 1 < (L.length : Int) := by omega
  have hq0 : (0 : Int) ≤ i := by omega
  have hq1 : i < (L.length : Int) := by omega
  clear hii hM hS hit hke
  generalize hg40 : sgAt L i = s40 at hsc hsm b40
  generalize hg1 : sgAt L (i + 1) = s1 at hsc1 hsm1 bhidden bvars blet
  clear hg40 hg1 hc ho
  go_enter Tryz.func115, Tryz.ntmps115
  go_wp2_with fail
  refine (HPP.out _ hAT).mono ?_
  rintro r w1 ⟨av, cv, rfl, hcv, hRN, hB1⟩
  have hSt1 := h.call hB1
  have hN1 := Nxt.of_below S hB1
  have hc01 := (hB1.cell (p := ⟨c, 0, none⟩) (by obtain ⟨⟨x, hM, _⟩, _⟩ := h; exact hM.lt)).trans hc0
  have hsc11 := (hB1.cell (p := ⟨sb, off + (i + 1).toNat, none⟩) hsz1).trans hsc1
  have hRI := hRN.row (fun k hk => (hlow k hk).2)
  clear hRN HPP hc0 hsc hsc1 h hAT hA hlow hB1
  rw [HP.out] at hRI
  obtain ⟨g, og, rfl, _, _, hcell0⟩ := hRI 0 (by simp)
  have hcell1' : w1.cell? ⟨g, og + 1, none⟩ = some (.int .i64 (i + 3)) := by
    obtain ⟨gg, oo, hga, _, _, hgg⟩ := hRI 1 (by simp)
    injection hga with hga
    injection hga with e1 e2 _
    subst e1 e2
    exact hgg
  clear hRI hcell0 HP
  go_wp2_with fail
  refine (HC.out _ hSt1).mono ?_
  rintro r w2 ⟨rfl, S2, U2, hSt2, hN2, hU2⟩
  have hN := hN1.trans hN2
  clear HC
  go_wp2
  go_end0
  exact ⟨rfl, S2, U2, hSt2, hN, by omega⟩

set_option maxRecDepth 100000 in
set_option maxHeartbeats 8000000 in
theorem read_take {a : Option Addr} {cap : Nat} {L : List ByteArray} {c n : Nat} (hR : ReadC a cap L c n) (_hK : RBlkC a cap L c n) (hL : L.length ≤ 2000) (hsg : signsB L = true) (S : Nat → Prop) (E : Blks) (lp : Bool) (F : Ot) (U : Nat) (i : Int) (w : World) (h : St S c a cap L E F U w) (hv : ItV L i) (ho : isW (sgAt L i) [40] = true) (hc : isW (sgAt L (i + 1)) [116, 97, 107, 101] = true) (hn : 2 * farN L i + 1 ≤ n + 1) (hE : E.length + (n + 1) ≤ 20000) (hU : (U : Int) ≤ i) :
    Calls Tryz.prog 115 #[.pointer (some ⟨c, 0, none⟩), .int .i64 i, .bool lp] w fun r w' => r = .returned (.tuple #[]) ∧ ∃ S' U', St S' c a cap L E (F.add (wk L (n + 1) 0 false i (knE E lp))) U' w' ∧ Nxt S S' w w' ∧ (U' : Int) ≤ itemE L i := by
  have hends := hv.ends
  obtain ⟨hit, k, e, hch, he0, he1, he, hie⟩ := hv.parts ho
  have hke := chI_ends k _ hch he0
  have HW : Hid (wk L (n + 1) 0 false i (knE E lp) = wk L n 0 false (itemE L (i + 2)) (knE E lp)) := itw_take (wk L n) (knE E lp) ho hc
  obtain ⟨n1, n2, n3, n4⟩ := hv.take_sum ho hc
  obtain ⟨y, hx2⟩ : ∃ y, itemE L (i + 2) = y := ⟨_, rfl⟩
  rw [hx2] at n2 n3 n4 HW
  have n5 := n3.ends
  have hP : chainP L k (i + 2) = (i + 2) :: (y) :: chainP L (k - 2) (itemE L (y)) ∧ 2 ≤ k := by
    obtain ⟨k1, rfl, _, q1⟩ := chI_next hch (by omega)
    rw [hx2] at q1
    obtain ⟨k2, rfl, _, _⟩ := chI_next q1 (by omega)
    exact ⟨by rw [chainP_succ, hx2, chainP_succ]; rfl, by omega⟩
  obtain ⟨hP1, hk2⟩ := hP
  have HP : Hid (chainP L k (i + 2) = (i + 2) :: (y) :: chainP L (k - 2) (itemE L (y))) := hP1
  clear hP1
  have hf := farR_lt (L := L) hends.1 (by omega : i < y) (by omega)
  have HC : Hid (∀ W, St S c a cap L E F U W → Calls Tryz.prog 115 #[.pointer (some ⟨c, 0, none⟩), .int .i64 (y), .bool lp] W fun r w' => r = .returned (.tuple #[]) ∧ ∃ S' U', St S' c a cap L E (F.add (wk L (n + 1) 0 false i (knE E lp))) U' w' ∧ Nxt S S' W w' ∧ (U' : Int) ≤ itemE L (y)) := fun W hW => by
    rw [HW.out]
    exact hR S E lp F U (y) W hW n3 (by omega) (by omega) (by omega)
  have hk1 : (1 : Int) < (k : Int) := by omega
  clear HW n1 n3 hx2 hf
  have HPP : Hid (∀ W, ArgT W a L → Calls Tryz.prog 113 #[.slice a L.length cap, .int .i64 i] W fun r W' => ∃ av cv, r = .returned (.slice av k cv) ∧ k ≤ cv ∧ RowN W.heap.size W' av (chainP L k (i + 2)) ∧ Below W.heap.size W W') := fun W hA => partsOf_any _ cap L _ e k (by omega) hsg hv ho hch he0 he1 he W hA
  have bhidden : ((sgAt L (i + 1)).toList == [104, 105, 100, 100, 101, 110]) = false := isW_other hc (by decide)
  have bvars : ((sgAt L (i + 1)).toList == [118, 97, 114, 115]) = false := isW_other hc (by decide)
  have blet : ((sgAt L (i + 1)).toList == [108, 101, 116]) = false := isW_other hc (by decide)
  have btake : ((sgAt L (i + 1)).toList == [116, 97, 107, 101]) = true := hc
  have b40 : ((sgAt L i).toList == [40]) = true := ho
  obtain ⟨⟨x, hM, hS⟩, hA⟩ := id h
  obtain ⟨sb, off, rfl, hsc, hsm, hsz, hsn⟩ := hA.at (i := i) (by omega) (by omega)
  obtain ⟨sb1, off1, hsa, hsc1, hsm1, hsz1, hsn1⟩ := hA.at (i := i + 1) (by omega) (by omega)
  injection hsa with hsa
  injection hsa with ea eb _
  subst ea eb
  have hc0 := hM.c0
  have hlow := hM.low
  have hAT := hA.arg
  obtain ⟨ii, hii⟩ : ∃ ii : Nat, i = (ii : Int) := ⟨i.toNat, by omega⟩
  have hwr : IntKind.i64.wrap (i + 1) = i + 1 := IntWalk.i64_in _ (by omega)
  have hp0 : (0 : Int) ≤ i + 1 := by omega
  have hp1 : i + 1 < (L.length : Int) := by omega
  have hq0 : (0 : Int) ≤ i := by omega
  have hq1 : i < (L.length : Int) := by omega
  clear hii hM hS hit hke
  generalize hg40 : sgAt L i = s40 at hsc hsm b40
  generalize hg1 : sgAt L (i + 1) = s1 at hsc1 hsm1 bhidden bvars blet btake
  clear hg40 hg1 hc ho
  go_enter Tryz.func115, Tryz.ntmps115
  go_wp2_with fail
  refine (HPP.out _ hAT).mono ?_
  rintro r w1 ⟨av, cv, rfl, hcv, hRN, hB1⟩
  have hSt1 := h.call hB1
  have hN1 := Nxt.of_below S hB1
  have hc01 := (hB1.cell (p := ⟨c, 0, none⟩) (by obtain ⟨⟨x, hM, _⟩, _⟩ := h; exact hM.lt)).trans hc0
  have hsc11 := (hB1.cell (p := ⟨sb, off + (i + 1).toNat, none⟩) hsz1).trans hsc1
  have hRI := hRN.row (fun k hk => (hlow k hk).2)
  clear hRN HPP hc0 hsc hsc1 h hAT hA hlow hB1
  rw [HP.out] at hRI
  obtain ⟨g, og, rfl, _, _, hcell0⟩ := hRI 0 (by simp)
  have hcell1' : w1.cell? ⟨g, og + 1, none⟩ = some (.int .i64 (y)) := by
    obtain ⟨gg, oo, hga, _, _, hgg⟩ := hRI 1 (by simp)
    injection hga with hga
    injection hga with e1 e2 _
    subst e1 e2
    exact hgg
  clear hRI hcell0 HP
  go_wp2_with fail
  refine (HC.out _ hSt1).mono ?_
  rintro r w2 ⟨rfl, S2, U2, hSt2, hN2, hU2⟩
  have hN := hN1.trans hN2
  clear HC
  go_wp2
  go_end0
  exact ⟨rfl, S2, U2, hSt2, hN, by omega⟩

set_option maxRecDepth 100000 in
set_option maxHeartbeats 8000000 in
theorem read_set {a : Option Addr} {cap : Nat} {L : List ByteArray} {c n : Nat} (hR : ReadC a cap L c n) (_hK : RBlkC a cap L c n) (hL : L.length ≤ 2000) (hsg : signsB L = true) (S : Nat → Prop) (E : Blks) (lp : Bool) (F : Ot) (U : Nat) (i : Int) (w : World) (h : St S c a cap L E F U w) (hv : ItV L i) (ho : isW (sgAt L i) [40] = true) (hc : isW (sgAt L (i + 1)) [115, 101, 116] = true) (hn : 2 * farN L i + 1 ≤ n + 1) (hE : E.length + (n + 1) ≤ 20000) (hU : (U : Int) ≤ i) :
    Calls Tryz.prog 115 #[.pointer (some ⟨c, 0, none⟩), .int .i64 i, .bool lp] w fun r w' => r = .returned (.tuple #[]) ∧ ∃ S' U', St S' c a cap L E (F.add (wk L (n + 1) 0 false i (knE E lp))) U' w' ∧ Nxt S S' w w' ∧ (U' : Int) ≤ itemE L i := by
  have hends := hv.ends
  obtain ⟨hit, k, e, hch, he0, he1, he, hie⟩ := hv.parts ho
  have hke := chI_ends k _ hch he0
  have HW : Hid (wk L (n + 1) 0 false i (knE E lp) = (useO (knE E lp) (sgAt L (i + 2))).add (wk L n 0 false (i + 3) (knE E lp))) := itw_set (wk L n) (knE E lp) ho hc
  obtain ⟨n1, n2, n3, n4⟩ := hv.name_sum ho _ hc (Or.inr rfl)
  have hx2 : itemE L (i + 2) = i + 3 := by rw [item_one (by omega) (by omega) (nm_plain n1)]; omega
  have n5 := n3.ends
  have hP : chainP L k (i + 2) = (i + 2) :: (i + 3) :: chainP L (k - 2) (itemE L (i + 3)) ∧ 2 ≤ k := by
    obtain ⟨k1, rfl, _, q1⟩ := chI_next hch (by omega)
    rw [hx2] at q1
    obtain ⟨k2, rfl, _, _⟩ := chI_next q1 (by omega)
    exact ⟨by rw [chainP_succ, hx2, chainP_succ]; rfl, by omega⟩
  obtain ⟨hP1, hk2⟩ := hP
  have HP : Hid (chainP L k (i + 2) = (i + 2) :: (i + 3) :: chainP L (k - 2) (itemE L (i + 3))) := hP1
  clear hP1
  have hf := farR_lt (L := L) hends.1 (by omega : i < i + 3) (by omega)
  have HU1 : Hid (∀ W, St S c a cap L E F U W → Calls Tryz.prog 138 #[.pointer (some ⟨c, 0, none⟩), .int .i64 (i + 2), .bool false] W fun e w' => e = .returned (.tuple #[]) ∧ ∃ S', St S' c a cap L E (F.add (usO false E (sgAt L (i + 2)))) (U + 1) w' ∧ Nxt S S' W w') := fun W hW => use_any S c a cap L E F U (i + 2) false W hW (by omega) n2 (by omega)
  have HC : Hid (∀ S1 W, St S1 c a cap L E (F.add (usO false E (sgAt L (i + 2)))) (U + 1) W → Calls Tryz.prog 115 #[.pointer (some ⟨c, 0, none⟩), .int .i64 (i + 3), .bool lp] W fun r w' => r = .returned (.tuple #[]) ∧ ∃ S' U', St S' c a cap L E (F.add (wk L (n + 1) 0 false i (knE E lp))) U' w' ∧ Nxt S1 S' W w' ∧ (U' : Int) ≤ itemE L (i + 3)) := fun S1 W hW => by
    rw [HW.out, ← usO_name E lp, ← Ot.add_assoc]
    exact hR S1 E lp _ (U + 1) (i + 3) W hW n3 (by omega) (by omega) (by omega)
  have hk1 : (1 : Int) < (k : Int) := by omega
  have hk0 : (0 : Int) < (k : Int) := by omega
  clear HW n1 n3 hx2 hf
  have HPP : Hid (∀ W, ArgT W a L → Calls Tryz.prog 113 #[.slice a L.length cap, .int .i64 i] W fun r W' => ∃ av cv, r = .returned (.slice av k cv) ∧ k ≤ cv ∧ RowN W.heap.size W' av (chainP L k (i + 2)) ∧ Below W.heap.size W W') := fun W hA => partsOf_any _ cap L _ e k (by omega) hsg hv ho hch he0 he1 he W hA
  have bhidden : ((sgAt L (i + 1)).toList == [104, 105, 100, 100, 101, 110]) = false := isW_other hc (by decide)
  have bvars : ((sgAt L (i + 1)).toList == [118, 97, 114, 115]) = false := isW_other hc (by decide)
  have blet : ((sgAt L (i + 1)).toList == [108, 101, 116]) = false := isW_other hc (by decide)
  have btake : ((sgAt L (i + 1)).toList == [116, 97, 107, 101]) = false := isW_other hc (by decide)
  have bset : ((sgAt L (i + 1)).toList == [115, 101, 116]) = true := hc
  have b40 : ((sgAt L i).toList == [40]) = true := ho
  obtain ⟨⟨x, hM, hS⟩, hA⟩ := id h
  obtain ⟨sb, off, rfl, hsc, hsm, hsz, hsn⟩ := hA.at (i := i) (by omega) (by omega)
  obtain ⟨sb1, off1, hsa, hsc1, hsm1, hsz1, hsn1⟩ := hA.at (i := i + 1) (by omega) (by omega)
  injection hsa with hsa
  injection hsa with ea eb _
  subst ea eb
  have hc0 := hM.c0
  have hlow := hM.low
  have hAT := hA.arg
  obtain ⟨ii, hii⟩ : ∃ ii : Nat, i = (ii : Int) := ⟨i.toNat, by omega⟩
  have hwr : IntKind.i64.wrap (i + 1) = i + 1 := IntWalk.i64_in _ (by omega)
  have hp0 : (0 : Int) ≤ i + 1 := by omega
  have hp1 : i + 1 < (L.length : Int) := by omega
  have hq0 : (0 : Int) ≤ i := by omega
  have hq1 : i < (L.length : Int) := by omega
  clear hii hM hS hit hke
  generalize hg40 : sgAt L i = s40 at hsc hsm b40
  generalize hg1 : sgAt L (i + 1) = s1 at hsc1 hsm1 bhidden bvars blet btake bset
  clear hg40 hg1 hc ho
  go_enter Tryz.func115, Tryz.ntmps115
  go_wp2_with fail
  refine (HPP.out _ hAT).mono ?_
  rintro r w1 ⟨av, cv, rfl, hcv, hRN, hB1⟩
  have hSt1 := h.call hB1
  have hN1 := Nxt.of_below S hB1
  have hc01 := (hB1.cell (p := ⟨c, 0, none⟩) (by obtain ⟨⟨x, hM, _⟩, _⟩ := h; exact hM.lt)).trans hc0
  have hsc11 := (hB1.cell (p := ⟨sb, off + (i + 1).toNat, none⟩) hsz1).trans hsc1
  have hRI := hRN.row (fun k hk => (hlow k hk).2)
  clear hRN HPP hc0 hsc hsc1 h hAT hA hlow hB1
  rw [HP.out] at hRI
  obtain ⟨g, og, rfl, _, _, hcell0⟩ := hRI 0 (by simp)
  have hcell0' : w1.cell? ⟨g, og, none⟩ = some (.int .i64 (i + 2)) := hcell0
  clear hcell0
  go_wp2_with fail
  refine (HU1.out _ hSt1).mono ?_
  rintro r w2 ⟨rfl, S2, hSt2, hN2⟩
  have hR2 := hRI.nxt hN2
  have hN := hN1.trans hN2
  have hcell1' : w2.cell? ⟨g, og + 1, none⟩ = some (.int .i64 (i + 3)) := by
    obtain ⟨gg, oo, hga, _, _, hgg⟩ := hR2 1 (by simp)
    injection hga with hga
    injection hga with e1 e2 _
    subst e1 e2
    exact hgg
  clear hRI hR2 HP HU1 hcell0'
  go_wp2_with fail
  refine (HC.out _ _ hSt2).mono ?_
  rintro r w3 ⟨rfl, S3, U3, hSt3, hN3, hU3⟩
  have hNN := hN.trans hN3
  clear HC
  go_wp2
  go_end0
  exact ⟨rfl, S3, U3, hSt3, hNN, by omega⟩

set_option maxRecDepth 100000 in
set_option maxHeartbeats 8000000 in
theorem read_while {a : Option Addr} {cap : Nat} {L : List ByteArray} {c n : Nat} (hR : ReadC a cap L c n) (_hK : RBlkC a cap L c n) (hL : L.length ≤ 2000) (hsg : signsB L = true) (S : Nat → Prop) (E : Blks) (lp : Bool) (F : Ot) (U : Nat) (i : Int) (w : World) (h : St S c a cap L E F U w) (hv : ItV L i) (ho : isW (sgAt L i) [40] = true) (hc : isW (sgAt L (i + 1)) [119, 104, 105, 108, 101] = true) (hn : 2 * farN L i + 1 ≤ n + 1) (hE : E.length + (n + 1) ≤ 20000) (hU : (U : Int) ≤ i) :
    Calls Tryz.prog 115 #[.pointer (some ⟨c, 0, none⟩), .int .i64 i, .bool lp] w fun r w' => r = .returned (.tuple #[]) ∧ ∃ S' U', St S' c a cap L E (F.add (wk L (n + 1) 0 false i (knE E lp))) U' w' ∧ Nxt S S' w w' ∧ (U' : Int) ≤ itemE L i := by
  have hends := hv.ends
  obtain ⟨hit, k, e, hch, he0, he1, he, hie⟩ := hv.parts ho
  have hke := chI_ends k _ hch he0
  have HW : Hid (wk L (n + 1) 0 false i (knE E lp) = (wk L n 0 false (i + 2) (knE E lp)).add (wk L n 0 false (itemE L (i + 2)) (inLoop (knE E lp) true))) := itw_while (wk L n) (knE E lp) ho hc
  obtain ⟨n1, n2, n3⟩ := hv.sum_deed ho hc
  have n4 := n1.ends
  obtain ⟨y, hx2⟩ : ∃ y, itemE L (i + 2) = y := ⟨_, rfl⟩
  rw [hx2] at n2 n3 n4 HW
  have n5 := n2.ends
  have hP : chainP L k (i + 2) = (i + 2) :: (y) :: chainP L (k - 2) (itemE L (y)) ∧ 2 ≤ k := by
    obtain ⟨k1, rfl, _, q1⟩ := chI_next hch (by omega)
    rw [hx2] at q1
    obtain ⟨k2, rfl, _, _⟩ := chI_next q1 (by omega)
    exact ⟨by rw [chainP_succ, hx2, chainP_succ]; rfl, by omega⟩
  obtain ⟨hP1, hk2⟩ := hP
  have HP : Hid (chainP L k (i + 2) = (i + 2) :: (y) :: chainP L (k - 2) (itemE L (y))) := hP1
  clear hP1
  have hf := farR_lt (L := L) hends.1 (by omega : i < i + 2) (by omega)
  have hf2 := farR_lt (L := L) hends.1 (by omega : i < y) (by omega)
  have HU1 : Hid (∀ W, St S c a cap L E F U W → Calls Tryz.prog 115 #[.pointer (some ⟨c, 0, none⟩), .int .i64 (i + 2), .bool lp] W fun r w' => r = .returned (.tuple #[]) ∧ ∃ S' U', St S' c a cap L E (F.add (wk L n 0 false (i + 2) (knE E lp))) U' w' ∧ Nxt S S' W w' ∧ (U' : Int) ≤ y) := fun W hW => by
    rw [← hx2]
    exact hR S E lp F U (i + 2) W hW n1 (by omega) (by omega) (by omega)
  have HC : Hid (∀ (S1 : Nat → Prop) (U1 : Nat) (W : World), (U1 : Int) ≤ y → St S1 c a cap L E (F.add (wk L n 0 false (i + 2) (knE E lp))) U1 W → Calls Tryz.prog 115 #[.pointer (some ⟨c, 0, none⟩), .int .i64 y, .bool true] W fun r w' => r = .returned (.tuple #[]) ∧ ∃ S' U', St S' c a cap L E (F.add (wk L (n + 1) 0 false i (knE E lp))) U' w' ∧ Nxt S1 S' W w' ∧ (U' : Int) ≤ itemE L y) := fun S1 U1 W hU1 hW => by
    rw [HW.out, ← Ot.add_assoc]
    exact hR S1 E true _ U1 y W hW n2 (by omega) (by omega) hU1
  have hk1 : (1 : Int) < (k : Int) := by omega
  have hk0 : (0 : Int) < (k : Int) := by omega
  clear HW n1 n2 hx2 hf hf2
  have HPP : Hid (∀ W, ArgT W a L → Calls Tryz.prog 113 #[.slice a L.length cap, .int .i64 i] W fun r W' => ∃ av cv, r = .returned (.slice av k cv) ∧ k ≤ cv ∧ RowN W.heap.size W' av (chainP L k (i + 2)) ∧ Below W.heap.size W W') := fun W hA => partsOf_any _ cap L _ e k (by omega) hsg hv ho hch he0 he1 he W hA
  have bhidden : ((sgAt L (i + 1)).toList == [104, 105, 100, 100, 101, 110]) = false := isW_other hc (by decide)
  have bvars : ((sgAt L (i + 1)).toList == [118, 97, 114, 115]) = false := isW_other hc (by decide)
  have blet : ((sgAt L (i + 1)).toList == [108, 101, 116]) = false := isW_other hc (by decide)
  have btake : ((sgAt L (i + 1)).toList == [116, 97, 107, 101]) = false := isW_other hc (by decide)
  have bset : ((sgAt L (i + 1)).toList == [115, 101, 116]) = false := isW_other hc (by decide)
  have bhget : ((sgAt L (i + 1)).toList == [104, 103, 101, 116]) = false := isW_other hc (by decide)
  have bhput : ((sgAt L (i + 1)).toList == [104, 112, 117, 116]) = false := isW_other hc (by decide)
  have bfn : ((sgAt L (i + 1)).toList == [102, 110]) = false := isW_other hc (by decide)
  have bdo : ((sgAt L (i + 1)).toList == [100, 111]) = false := isW_other hc (by decide)
  have bwhile : ((sgAt L (i + 1)).toList == [119, 104, 105, 108, 101]) = true := hc
  have b40 : ((sgAt L i).toList == [40]) = true := ho
  obtain ⟨⟨x, hM, hS⟩, hA⟩ := id h
  obtain ⟨sb, off, rfl, hsc, hsm, hsz, hsn⟩ := hA.at (i := i) (by omega) (by omega)
  obtain ⟨sb1, off1, hsa, hsc1, hsm1, hsz1, hsn1⟩ := hA.at (i := i + 1) (by omega) (by omega)
  injection hsa with hsa
  injection hsa with ea eb _
  subst ea eb
  have hc0 := hM.c0
  have hlow := hM.low
  have hAT := hA.arg
  obtain ⟨ii, hii⟩ : ∃ ii : Nat, i = (ii : Int) := ⟨i.toNat, by omega⟩
  have hwr : IntKind.i64.wrap (i + 1) = i + 1 := IntWalk.i64_in _ (by omega)
  have hp0 : (0 : Int) ≤ i + 1 := by omega
  have hp1 : i + 1 < (L.length : Int) := by omega
  have hq0 : (0 : Int) ≤ i := by omega
  have hq1 : i < (L.length : Int) := by omega
  clear hii hM hS hit hke
  generalize hg40 : sgAt L i = s40 at hsc hsm b40
  generalize hg1 : sgAt L (i + 1) = s1 at hsc1 hsm1 bhidden bvars blet btake bset bhget bhput bfn bdo bwhile
  clear hg40 hg1 hc ho
  go_enter Tryz.func115, Tryz.ntmps115
  go_wp2_with fail
  refine (HPP.out _ hAT).mono ?_
  rintro r w1 ⟨av, cv, rfl, hcv, hRN, hB1⟩
  have hSt1 := h.call hB1
  have hN1 := Nxt.of_below S hB1
  have hc01 := (hB1.cell (p := ⟨c, 0, none⟩) (by obtain ⟨⟨x, hM, _⟩, _⟩ := h; exact hM.lt)).trans hc0
  have hsc11 := (hB1.cell (p := ⟨sb, off + (i + 1).toNat, none⟩) hsz1).trans hsc1
  have hRI := hRN.row (fun k hk => (hlow k hk).2)
  clear hRN HPP hc0 hsc hsc1 h hAT hA hlow hB1
  rw [HP.out] at hRI
  obtain ⟨g, og, rfl, _, _, hcell0⟩ := hRI 0 (by simp)
  have hcell0' : w1.cell? ⟨g, og, none⟩ = some (.int .i64 (i + 2)) := hcell0
  clear hcell0
  go_wp2_with fail
  refine (HU1.out _ hSt1).mono ?_
  rintro r w2 ⟨rfl, S2, U2, hSt2, hN2, hU2⟩
  have hR2 := hRI.nxt hN2
  have hN := hN1.trans hN2
  have hcell1' : w2.cell? ⟨g, og + 1, none⟩ = some (.int .i64 y) := by
    obtain ⟨gg, oo, hga, _, _, hgg⟩ := hR2 1 (by simp)
    injection hga with hga
    injection hga with e1 e2 _
    subst e1 e2
    exact hgg
  clear hRI hR2 HP HU1 hcell0'
  go_wp2_with fail
  refine (HC.out _ _ _ hU2 hSt2).mono ?_
  rintro r w3 ⟨rfl, S3, U3, hSt3, hN3, hU3⟩
  have hNN := hN.trans hN3
  clear HC
  go_wp2
  go_end0
  exact ⟨rfl, S3, U3, hSt3, hNN, by omega⟩

set_option maxRecDepth 100000 in
set_option maxHeartbeats 8000000 in
theorem read_do {a : Option Addr} {cap : Nat} {L : List ByteArray} {c n : Nat} (_hR : ReadC a cap L c n) (hK : RBlkC a cap L c n) (hL : L.length ≤ 2000) (hsg : signsB L = true) (S : Nat → Prop) (E : Blks) (lp : Bool) (F : Ot) (U : Nat) (i : Int) (w : World) (h : St S c a cap L E F U w) (hv : ItV L i) (ho : isW (sgAt L i) [40] = true) (hc : isW (sgAt L (i + 1)) [100, 111] = true) (hn : 2 * farN L i + 1 ≤ n + 1) (hE : E.length + (n + 1) ≤ 20000) (hU : (U : Int) ≤ i) :
    Calls Tryz.prog 115 #[.pointer (some ⟨c, 0, none⟩), .int .i64 i, .bool lp] w fun r w' => r = .returned (.tuple #[]) ∧ ∃ S' U', St S' c a cap L E (F.add (wk L (n + 1) 0 false i (knE E lp))) U' w' ∧ Nxt S S' w w' ∧ (U' : Int) ≤ itemE L i := by
  have hends := hv.ends
  obtain ⟨hit, k, e, hch, he0, he1, he, hie⟩ := hv.parts ho
  have hke := chI_ends k _ hch he0
  have HW : Hid (wk L (n + 1) 0 false i (knE E lp) = wk L n 1 false (i + 2) (knE E lp)) := itw_do (wk L n) (knE E lp) ho hc
  obtain ⟨k', e', n1, n2, n3⟩ := hv.deeds ho hc
  have hee : e = e' := by omega
  subst hee
  have hkk := (chI_one _ _ _ hch (chI_V k' _ (chain_deeds k' _ n1).1) (itemE_none (Or.inr (Or.inr he))) (itemE_none (Or.inr (Or.inr he)))).1
  subst hkk
  have hf := farR_lt (L := L) hends.1 (by omega : i < i + 2) (by omega)
  have HC : Hid (∀ ad cd W, St S c a cap L E F U W → RowI S W ad (chainP L k (i + 2)) → Calls Tryz.prog 40 #[.pointer (some ⟨c, 0, none⟩), .slice ad k cd, .bool false, .bool lp] W fun r w' => r = .returned (.tuple #[]) ∧ ∃ S' U', St S' c a cap L E (F.add (wk L (n + 1) 0 false i (knE E lp))) U' w' ∧ Nxt S S' W w' ∧ (U' : Int) ≤ e) := fun ad cd W hW hX => by
    rw [HW.out]
    exact hK S E lp false F U (i + 2) e k ad cd W hW hX n1 (Or.inr he) he0 (by omega) (by omega) (by omega) (by omega)
  clear HW n1 n2 n3 hf
  have HPP : Hid (∀ W, ArgT W a L → Calls Tryz.prog 113 #[.slice a L.length cap, .int .i64 i] W fun r W' => ∃ av cv, r = .returned (.slice av k cv) ∧ k ≤ cv ∧ RowN W.heap.size W' av (chainP L k (i + 2)) ∧ Below W.heap.size W W') := fun W hA => partsOf_any _ cap L _ e k (by omega) hsg hv ho hch he0 he1 he W hA
  have bhidden : ((sgAt L (i + 1)).toList == [104, 105, 100, 100, 101, 110]) = false := isW_other hc (by decide)
  have bvars : ((sgAt L (i + 1)).toList == [118, 97, 114, 115]) = false := isW_other hc (by decide)
  have blet : ((sgAt L (i + 1)).toList == [108, 101, 116]) = false := isW_other hc (by decide)
  have btake : ((sgAt L (i + 1)).toList == [116, 97, 107, 101]) = false := isW_other hc (by decide)
  have bset : ((sgAt L (i + 1)).toList == [115, 101, 116]) = false := isW_other hc (by decide)
  have bhget : ((sgAt L (i + 1)).toList == [104, 103, 101, 116]) = false := isW_other hc (by decide)
  have bhput : ((sgAt L (i + 1)).toList == [104, 112, 117, 116]) = false := isW_other hc (by decide)
  have bfn : ((sgAt L (i + 1)).toList == [102, 110]) = false := isW_other hc (by decide)
  have bdo : ((sgAt L (i + 1)).toList == [100, 111]) = true := hc
  have b40 : ((sgAt L i).toList == [40]) = true := ho
  obtain ⟨⟨x, hM, hS⟩, hA⟩ := id h
  obtain ⟨sb, off, rfl, hsc, hsm, hsz, hsn⟩ := hA.at (i := i) (by omega) (by omega)
  obtain ⟨sb1, off1, hsa, hsc1, hsm1, hsz1, hsn1⟩ := hA.at (i := i + 1) (by omega) (by omega)
  injection hsa with hsa
  injection hsa with ea eb _
  subst ea eb
  have hc0 := hM.c0
  have hlow := hM.low
  have hAT := hA.arg
  obtain ⟨ii, hii⟩ : ∃ ii : Nat, i = (ii : Int) := ⟨i.toNat, by omega⟩
  have hwr : IntKind.i64.wrap (i + 1) = i + 1 := IntWalk.i64_in _ (by omega)
  have hp0 : (0 : Int) ≤ i + 1 := by omega
  have hp1 : i + 1 < (L.length : Int) := by omega
  have hq0 : (0 : Int) ≤ i := by omega
  have hq1 : i < (L.length : Int) := by omega
  clear hii hM hS hit hke
  generalize hg40 : sgAt L i = s40 at hsc hsm b40
  generalize hg1 : sgAt L (i + 1) = s1 at hsc1 hsm1 bhidden bvars blet btake bset bhget bhput bfn bdo
  clear hg40 hg1 hc ho
  go_enter Tryz.func115, Tryz.ntmps115
  go_wp2_with fail
  refine (HPP.out _ hAT).mono ?_
  rintro r w1 ⟨av, cv, rfl, hcv, hRN, hB1⟩
  have hSt1 := h.call hB1
  have hN1 := Nxt.of_below S hB1
  have hc01 := (hB1.cell (p := ⟨c, 0, none⟩) (by obtain ⟨⟨x, hM, _⟩, _⟩ := h; exact hM.lt)).trans hc0
  have hsc11 := (hB1.cell (p := ⟨sb, off + (i + 1).toNat, none⟩) hsz1).trans hsc1
  have hRI := hRN.row (fun k hk => (hlow k hk).2)
  clear hRN HPP hc0 hsc hsc1 h hAT hA hlow hB1
  go_wp2_with fail
  refine (HC.out _ _ _ hSt1 hRI).mono ?_
  rintro r w2 ⟨rfl, S2, U2, hSt2, hN2, hU2⟩
  have hN := hN1.trans hN2
  clear HC
  go_wp2
  go_end0
  exact ⟨rfl, S2, U2, hSt2, hN, by omega⟩

set_option maxRecDepth 100000 in
set_option maxHeartbeats 8000000 in
theorem read_rest {a : Option Addr} {cap : Nat} {L : List ByteArray} {c n : Nat} (hR : ReadC a cap L c n) (_hK : RBlkC a cap L c n) (hL : L.length ≤ 2000) (hsg : signsB L = true) (S : Nat → Prop) (E : Blks) (lp : Bool) (F : Ot) (U : Nat) (i : Int) (w : World) (h : St S c a cap L E F U w) (hv : ItV L i) (ho : isW (sgAt L i) [40] = true) (hhidden : isW (sgAt L (i + 1)) [104, 105, 100, 100, 101, 110] = false) (hvars : isW (sgAt L (i + 1)) [118, 97, 114, 115] = false) (hlet : isW (sgAt L (i + 1)) [108, 101, 116] = false) (htake : isW (sgAt L (i + 1)) [116, 97, 107, 101] = false) (hset : isW (sgAt L (i + 1)) [115, 101, 116] = false) (hhget : isW (sgAt L (i + 1)) [104, 103, 101, 116] = false) (hhput : isW (sgAt L (i + 1)) [104, 112, 117, 116] = false) (hfn : isW (sgAt L (i + 1)) [102, 110] = false) (hdo : isW (sgAt L (i + 1)) [100, 111] = false) (hwhile : isW (sgAt L (i + 1)) [119, 104, 105, 108, 101] = false) (hfor : isW (sgAt L (i + 1)) [102, 111, 114] = false) (hleave : isW (sgAt L (i + 1)) [108, 101, 97, 118, 101] = false) (hnext : isW (sgAt L (i + 1)) [110, 101, 120, 116] = false) (hn : 2 * farN L i + 1 ≤ n + 1) (hE : E.length + (n + 1) ≤ 20000) (hU : (U : Int) ≤ i) :
    Calls Tryz.prog 115 #[.pointer (some ⟨c, 0, none⟩), .int .i64 i, .bool lp] w fun r w' => r = .returned (.tuple #[]) ∧ ∃ S' U', St S' c a cap L E (F.add (wk L (n + 1) 0 false i (knE E lp))) U' w' ∧ Nxt S S' w w' ∧ (U' : Int) ≤ itemE L i := by
  have hends := hv.ends
  obtain ⟨hit, k, e, hch, he0, he1, he, hie⟩ := hv.parts ho
  have hke := chI_ends k _ hch he0
  have HW : Hid (wk L (n + 1) 0 false i (knE E lp) = itemO L (wk L n) i (knE E lp)) := (rfl : wk L (n + 1) 0 false i (knE E lp) = itemO L (wk L n) i (knE E lp))
  have HW2 := itw_rest (wk L n) (knE E lp) ho hhidden hvars hlet htake hset hhget hhput hfn hdo hwhile hfor hleave hnext
  obtain ⟨k', e', n1, n2, n3⟩ := hv.items ho hfn hdo hlet hset htake hhget hhput hhidden hvars hfor
  have hee : e = e' := by omega
  subst hee
  have hkk := (chI_one _ _ _ hch (chI_V k' _ n1) (itemE_none (Or.inr (Or.inr he))) (itemE_none (Or.inr (Or.inr he)))).1
  subst hkk
  have hf := farR_lt (L := L) hends.1 (by omega : i < i + 2) (by omega)
  have hup := upL_chain k _ n1
  have hpl := plc_chain n1 he0 (by omega) (Or.inr he)
  have hkb := chI_ends k _ hch he0
  have hcl := chP_len L k (i + 2)
  have HC : Hid (∀ ad cd W, St S c a cap L E F U W → RowI S W ad (chainP L k (i + 2)) → Calls Tryz.prog 85 #[.pointer (some ⟨c, 0, none⟩), .slice ad k cd, .bool lp] W fun r w' => r = .returned (.tuple #[]) ∧ ∃ S' U', St S' c a cap L E (F.add (wk L (n + 1) 0 false i (knE E lp))) U' w' ∧ Nxt S S' W w' ∧ (U' : Int) ≤ e) := fun ad cd W hW hX => by
    rw [HW.out, HW2, hpl]
    exact readAll_any hR S E lp F U (i + 2) e (chainP L k (i + 2)) ad k cd W hcl.symm hW hX hup (by omega) (by rw [hcl]; omega) (by omega) (by omega) (by omega)
  clear HW HW2 n1 n2 n3 hf hup hpl hkb hcl
  have HPP : Hid (∀ W, ArgT W a L → Calls Tryz.prog 113 #[.slice a L.length cap, .int .i64 i] W fun r W' => ∃ av cv, r = .returned (.slice av k cv) ∧ k ≤ cv ∧ RowN W.heap.size W' av (chainP L k (i + 2)) ∧ Below W.heap.size W W') := fun W hA => partsOf_any _ cap L _ e k (by omega) hsg hv ho hch he0 he1 he W hA
  have bhidden : ((sgAt L (i + 1)).toList == [104, 105, 100, 100, 101, 110]) = false := hhidden
  have bvars : ((sgAt L (i + 1)).toList == [118, 97, 114, 115]) = false := hvars
  have blet : ((sgAt L (i + 1)).toList == [108, 101, 116]) = false := hlet
  have btake : ((sgAt L (i + 1)).toList == [116, 97, 107, 101]) = false := htake
  have bset : ((sgAt L (i + 1)).toList == [115, 101, 116]) = false := hset
  have bhget : ((sgAt L (i + 1)).toList == [104, 103, 101, 116]) = false := hhget
  have bhput : ((sgAt L (i + 1)).toList == [104, 112, 117, 116]) = false := hhput
  have bfn : ((sgAt L (i + 1)).toList == [102, 110]) = false := hfn
  have bdo : ((sgAt L (i + 1)).toList == [100, 111]) = false := hdo
  have bwhile : ((sgAt L (i + 1)).toList == [119, 104, 105, 108, 101]) = false := hwhile
  have bfor : ((sgAt L (i + 1)).toList == [102, 111, 114]) = false := hfor
  have bleave : ((sgAt L (i + 1)).toList == [108, 101, 97, 118, 101]) = false := hleave
  have bnext : ((sgAt L (i + 1)).toList == [110, 101, 120, 116]) = false := hnext
  have b40 : ((sgAt L i).toList == [40]) = true := ho
  obtain ⟨⟨x, hM, hS⟩, hA⟩ := id h
  obtain ⟨sb, off, rfl, hsc, hsm, hsz, hsn⟩ := hA.at (i := i) (by omega) (by omega)
  obtain ⟨sb1, off1, hsa, hsc1, hsm1, hsz1, hsn1⟩ := hA.at (i := i + 1) (by omega) (by omega)
  injection hsa with hsa
  injection hsa with ea eb _
  subst ea eb
  have hc0 := hM.c0
  have hlow := hM.low
  have hAT := hA.arg
  obtain ⟨ii, hii⟩ : ∃ ii : Nat, i = (ii : Int) := ⟨i.toNat, by omega⟩
  have hwr : IntKind.i64.wrap (i + 1) = i + 1 := IntWalk.i64_in _ (by omega)
  have hp0 : (0 : Int) ≤ i + 1 := by omega
  have hp1 : i + 1 < (L.length : Int) := by omega
  have hq0 : (0 : Int) ≤ i := by omega
  have hq1 : i < (L.length : Int) := by omega
  clear hii hM hS hit hke
  generalize hg40 : sgAt L i = s40 at hsc hsm b40
  generalize hg1 : sgAt L (i + 1) = s1 at hsc1 hsm1 bhidden bvars blet btake bset bhget bhput bfn bdo bwhile bfor bleave bnext
  clear hg40 hg1 ho hhidden hvars hlet htake hset hhget hhput hfn hdo hwhile hfor hleave hnext
  go_enter Tryz.func115, Tryz.ntmps115
  go_wp2_with fail
  refine (HPP.out _ hAT).mono ?_
  rintro r w1 ⟨av, cv, rfl, hcv, hRN, hB1⟩
  have hSt1 := h.call hB1
  have hN1 := Nxt.of_below S hB1
  have hc01 := (hB1.cell (p := ⟨c, 0, none⟩) (by obtain ⟨⟨x, hM, _⟩, _⟩ := h; exact hM.lt)).trans hc0
  have hsc11 := (hB1.cell (p := ⟨sb, off + (i + 1).toNat, none⟩) hsz1).trans hsc1
  have hRI := hRN.row (fun k hk => (hlow k hk).2)
  clear hRN HPP hc0 hsc hsc1 h hAT hA hlow hB1
  go_wp2_with fail
  refine (HC.out _ _ _ hSt1 hRI).mono ?_
  rintro r w2 ⟨rfl, S2, U2, hSt2, hN2, hU2⟩
  have hN := hN1.trans hN2
  clear HC
  go_wp2
  go_end0
  exact ⟨rfl, S2, U2, hSt2, hN, by omega⟩
end Go.Proofs.YtcpnofagnnncoaaGreatDoor

/-
  Chapter 5, the program: an item is read, word by word (more of them).
-/
namespace Go.Proofs.YtcpnofagnnncoaaGreatDoor
open Go.RowKit

set_option maxRecDepth 100000 in
set_option maxHeartbeats 8000000 in
theorem read_hget {a : Option Addr} {cap : Nat} {L : List ByteArray} {c n : Nat} (hR : ReadC a cap L c n) (_hK : RBlkC a cap L c n) (hL : L.length ≤ 2000) (hsg : signsB L = true) (S : Nat → Prop) (E : Blks) (lp : Bool) (F : Ot) (U : Nat) (i : Int) (w : World) (h : St S c a cap L E F U w) (hv : ItV L i) (ho : isW (sgAt L i) [40] = true) (hc : isW (sgAt L (i + 1)) [104, 103, 101, 116] = true) (hn : 2 * farN L i + 1 ≤ n + 1) (hE : E.length + (n + 1) ≤ 20000) (hU : (U : Int) ≤ i) :
    Calls Tryz.prog 115 #[.pointer (some ⟨c, 0, none⟩), .int .i64 i, .bool lp] w fun r w' => r = .returned (.tuple #[]) ∧ ∃ S' U', St S' c a cap L E (F.add (wk L (n + 1) 0 false i (knE E lp))) U' w' ∧ Nxt S S' w w' ∧ (U' : Int) ≤ itemE L i := by
  have hends := hv.ends
  obtain ⟨hit, k, e, hch, he0, he1, he, hie⟩ := hv.parts ho
  have hke := chI_ends k _ hch he0
  have HW : Hid (wk L (n + 1) 0 false i (knE E lp) = (hideO (knE E lp) (sgAt L (i + 2))).add (outs (fun p => wk L n 0 false p (knE E lp)) (plc L (i + 3)))) := itw_hget (wk L n) (knE E lp) ho hc
  obtain ⟨n1, n2, k', e', n3, n4, n5⟩ := hv.name_sums ho _ hc (Or.inl rfl)
  have hee : e = e' := by omega
  subst hee
  have hx2 : itemE L (i + 2) = i + 3 := by rw [item_one (by omega) (by omega) (nm_plain n2)]; omega
  have hce := chainV_ends k' _ n3 he0
  have hkk : k = k' + 1 := by
    obtain ⟨k1, rfl, _, q1⟩ := chI_next hch (by omega)
    rw [hx2] at q1
    rw [(chI_one _ _ _ q1 (chI_V k' _ n3) (itemE_none (Or.inr (Or.inr he))) (itemE_none (Or.inr (Or.inr he)))).1]
  subst hkk
  have HP : Hid (chainP L (k' + 1) (i + 2) = (i + 2) :: chainP L k' (i + 3)) := (by rw [chainP_succ, hx2] : chainP L (k' + 1) (i + 2) = (i + 2) :: chainP L k' (i + 3))
  have hf := farR_lt (L := L) hends.1 (by omega : i < i + 3) (by omega)
  have hup := upL_chain k' _ n3
  have hpl := plc_chain n3 he0 (by omega) (Or.inr he)
  have hcl := chP_len L k' (i + 3)
  have HU1 : Hid (∀ W, St S c a cap L E F U W → Calls Tryz.prog 138 #[.pointer (some ⟨c, 0, none⟩), .int .i64 (i + 2), .bool true] W fun e w' => e = .returned (.tuple #[]) ∧ ∃ S', St S' c a cap L E (F.add (usO true E (sgAt L (i + 2)))) (U + 1) w' ∧ Nxt S S' W w') := fun W hW => use_any S c a cap L E F U (i + 2) true W hW (by omega) n1 (by omega)
  have HC : Hid (∀ (S1 : Nat → Prop) ad cd W, St S1 c a cap L E (F.add (usO true E (sgAt L (i + 2)))) (U + 1) W → RowI S1 W ad (chainP L k' (i + 3)) → Calls Tryz.prog 85 #[.pointer (some ⟨c, 0, none⟩), .slice ad k' cd, .bool lp] W fun r w' => r = .returned (.tuple #[]) ∧ ∃ S' U', St S' c a cap L E (F.add (wk L (n + 1) 0 false i (knE E lp))) U' w' ∧ Nxt S1 S' W w' ∧ (U' : Int) ≤ e) := fun S1 ad cd W hW hX => by
    rw [HW.out, ← usO_hide E lp, ← Ot.add_assoc, hpl]
    exact readAll_any hR S1 E lp _ (U + 1) (i + 3) e (chainP L k' (i + 3)) ad k' cd W hcl.symm hW hX hup (by omega) (by rw [hcl]; omega) (by omega) (by omega) (by omega)
  have hk0 : (0 : Int) < ((k' + 1 : Nat) : Int) := by omega
  have hk1 : (1 : Int) ≤ ((k' + 1 : Nat) : Int) := by omega
  clear HW n2 n3 n4 n5 hf hup hpl hx2 hce
  have HPP : Hid (∀ W, ArgT W a L → Calls Tryz.prog 113 #[.slice a L.length cap, .int .i64 i] W fun r W' => ∃ av cv, r = .returned (.slice av (k' + 1) cv) ∧ k' + 1 ≤ cv ∧ RowN W.heap.size W' av (chainP L (k' + 1) (i + 2)) ∧ Below W.heap.size W W') := fun W hA => partsOf_any _ cap L _ e (k' + 1) (by omega) hsg hv ho hch he0 he1 he W hA
  have bhidden : ((sgAt L (i + 1)).toList == [104, 105, 100, 100, 101, 110]) = false := isW_other hc (by decide)
  have bvars : ((sgAt L (i + 1)).toList == [118, 97, 114, 115]) = false := isW_other hc (by decide)
  have blet : ((sgAt L (i + 1)).toList == [108, 101, 116]) = false := isW_other hc (by decide)
  have btake : ((sgAt L (i + 1)).toList == [116, 97, 107, 101]) = false := isW_other hc (by decide)
  have bset : ((sgAt L (i + 1)).toList == [115, 101, 116]) = false := isW_other hc (by decide)
  have bhget : ((sgAt L (i + 1)).toList == [104, 103, 101, 116]) = true := hc
  have b40 : ((sgAt L i).toList == [40]) = true := ho
  obtain ⟨⟨x, hM, hS⟩, hA⟩ := id h
  obtain ⟨sb, off, rfl, hsc, hsm, hsz, hsn⟩ := hA.at (i := i) (by omega) (by omega)
  obtain ⟨sb1, off1, hsa, hsc1, hsm1, hsz1, hsn1⟩ := hA.at (i := i + 1) (by omega) (by omega)
  injection hsa with hsa
  injection hsa with ea eb _
  subst ea eb
  have hc0 := hM.c0
  have hlow := hM.low
  have hAT := hA.arg
  obtain ⟨ii, hii⟩ : ∃ ii : Nat, i = (ii : Int) := ⟨i.toNat, by omega⟩
  have hwr : IntKind.i64.wrap (i + 1) = i + 1 := IntWalk.i64_in _ (by omega)
  have hp0 : (0 : Int) ≤ i + 1 := by omega
  have hp1 : i + 1 < (L.length : Int) := by omega
  have hq0 : (0 : Int) ≤ i := by omega
  have hq1 : i < (L.length : Int) := by omega
  clear hii hM hS hit hke
  generalize hg40 : sgAt L i = s40 at hsc hsm b40
  generalize hg1 : sgAt L (i + 1) = s1 at hsc1 hsm1 bhidden bvars blet btake bset bhget
  clear hg40 hg1 hc ho
  go_enter Tryz.func115, Tryz.ntmps115
  go_wp2_with fail
  refine (HPP.out _ hAT).mono ?_
  rintro r w1 ⟨av, cv, rfl, hcv, hRN, hB1⟩
  have hSt1 := h.call hB1
  have hN1 := Nxt.of_below S hB1
  have hc01 := (hB1.cell (p := ⟨c, 0, none⟩) (by obtain ⟨⟨x, hM, _⟩, _⟩ := h; exact hM.lt)).trans hc0
  have hsc11 := (hB1.cell (p := ⟨sb, off + (i + 1).toNat, none⟩) hsz1).trans hsc1
  have hRI := hRN.row (fun k hk => (hlow k hk).2)
  clear hRN HPP hc0 hsc hsc1 h hAT hA hlow hB1
  rw [HP.out] at hRI
  obtain ⟨g, og, rfl, _, _, hcell0⟩ := hRI 0 (by simp)
  have hcell0' : w1.cell? ⟨g, og, none⟩ = some (.int .i64 (i + 2)) := hcell0
  clear hcell0
  have hkc : ((k' + 1 : Nat) : Int) ≤ (cv : Int) := by omega
  go_wp2_with fail
  refine (HU1.out _ hSt1).mono ?_
  rintro r w2 ⟨rfl, S2, hSt2, hN2⟩
  have hR2 := hRI.nxt hN2
  have hN := hN1.trans hN2
  clear hRI HU1 HP hcell0'
  by_cases hcv1 : cv = 1
  · subst hcv1
    have hk00 : k' = 0 := by omega
    subst hk00
    have HX : Hid (RowI S2 w2 (some ⟨g, og, none⟩) (chainP L 0 (i + 3))) := fun j hj => absurd hj (Nat.not_lt_zero _)
    clear hR2
    go_wp2_with fail
    refine (HC.out _ _ _ _ hSt2 HX.out).mono ?_
    rintro r w3 ⟨rfl, S3, U3, hSt3, hN3, hU3⟩
    have hNN := hN.trans hN3
    clear HC
    go_wp2
    go_end0
    exact ⟨rfl, S3, U3, hSt3, hNN, by omega⟩
  · have HX : Hid (RowI S2 w2 (some ⟨g, og + 1, none⟩) (chainP L k' (i + 3))) := hR2.tail
    clear hR2
    go_wp2_with fail
    refine (HC.out _ _ _ _ hSt2 HX.out).mono ?_
    rintro r w3 ⟨rfl, S3, U3, hSt3, hN3, hU3⟩
    have hNN := hN.trans hN3
    clear HC
    go_wp2
    go_end0
    exact ⟨rfl, S3, U3, hSt3, hNN, by omega⟩

set_option maxRecDepth 100000 in
set_option maxHeartbeats 8000000 in
theorem read_hput {a : Option Addr} {cap : Nat} {L : List ByteArray} {c n : Nat} (hR : ReadC a cap L c n) (_hK : RBlkC a cap L c n) (hL : L.length ≤ 2000) (hsg : signsB L = true) (S : Nat → Prop) (E : Blks) (lp : Bool) (F : Ot) (U : Nat) (i : Int) (w : World) (h : St S c a cap L E F U w) (hv : ItV L i) (ho : isW (sgAt L i) [40] = true) (hc : isW (sgAt L (i + 1)) [104, 112, 117, 116] = true) (hn : 2 * farN L i + 1 ≤ n + 1) (hE : E.length + (n + 1) ≤ 20000) (hU : (U : Int) ≤ i) :
    Calls Tryz.prog 115 #[.pointer (some ⟨c, 0, none⟩), .int .i64 i, .bool lp] w fun r w' => r = .returned (.tuple #[]) ∧ ∃ S' U', St S' c a cap L E (F.add (wk L (n + 1) 0 false i (knE E lp))) U' w' ∧ Nxt S S' w w' ∧ (U' : Int) ≤ itemE L i := by
  have hends := hv.ends
  obtain ⟨hit, k, e, hch, he0, he1, he, hie⟩ := hv.parts ho
  have hke := chI_ends k _ hch he0
  have HW : Hid (wk L (n + 1) 0 false i (knE E lp) = (hideO (knE E lp) (sgAt L (i + 2))).add (outs (fun p => wk L n 0 false p (knE E lp)) (plc L (i + 3)))) := itw_hput (wk L n) (knE E lp) ho hc
  obtain ⟨n1, n2, k', e', n3, n4, n5⟩ := hv.name_sums ho _ hc (Or.inr rfl)
  have hee : e = e' := by omega
  subst hee
  have hx2 : itemE L (i + 2) = i + 3 := by rw [item_one (by omega) (by omega) (nm_plain n2)]; omega
  have hce := chainV_ends k' _ n3 he0
  have hkk : k = k' + 1 := by
    obtain ⟨k1, rfl, _, q1⟩ := chI_next hch (by omega)
    rw [hx2] at q1
    rw [(chI_one _ _ _ q1 (chI_V k' _ n3) (itemE_none (Or.inr (Or.inr he))) (itemE_none (Or.inr (Or.inr he)))).1]
  subst hkk
  have HP : Hid (chainP L (k' + 1) (i + 2) = (i + 2) :: chainP L k' (i + 3)) := (by rw [chainP_succ, hx2] : chainP L (k' + 1) (i + 2) = (i + 2) :: chainP L k' (i + 3))
  have hf := farR_lt (L := L) hends.1 (by omega : i < i + 3) (by omega)
  have hup := upL_chain k' _ n3
  have hpl := plc_chain n3 he0 (by omega) (Or.inr he)
  have hcl := chP_len L k' (i + 3)
  have HU1 : Hid (∀ W, St S c a cap L E F U W → Calls Tryz.prog 138 #[.pointer (some ⟨c, 0, none⟩), .int .i64 (i + 2), .bool true] W fun e w' => e = .returned (.tuple #[]) ∧ ∃ S', St S' c a cap L E (F.add (usO true E (sgAt L (i + 2)))) (U + 1) w' ∧ Nxt S S' W w') := fun W hW => use_any S c a cap L E F U (i + 2) true W hW (by omega) n1 (by omega)
  have HC : Hid (∀ (S1 : Nat → Prop) ad cd W, St S1 c a cap L E (F.add (usO true E (sgAt L (i + 2)))) (U + 1) W → RowI S1 W ad (chainP L k' (i + 3)) → Calls Tryz.prog 85 #[.pointer (some ⟨c, 0, none⟩), .slice ad k' cd, .bool lp] W fun r w' => r = .returned (.tuple #[]) ∧ ∃ S' U', St S' c a cap L E (F.add (wk L (n + 1) 0 false i (knE E lp))) U' w' ∧ Nxt S1 S' W w' ∧ (U' : Int) ≤ e) := fun S1 ad cd W hW hX => by
    rw [HW.out, ← usO_hide E lp, ← Ot.add_assoc, hpl]
    exact readAll_any hR S1 E lp _ (U + 1) (i + 3) e (chainP L k' (i + 3)) ad k' cd W hcl.symm hW hX hup (by omega) (by rw [hcl]; omega) (by omega) (by omega) (by omega)
  have hk0 : (0 : Int) < ((k' + 1 : Nat) : Int) := by omega
  have hk1 : (1 : Int) ≤ ((k' + 1 : Nat) : Int) := by omega
  clear HW n2 n3 n4 n5 hf hup hpl hx2 hce
  have HPP : Hid (∀ W, ArgT W a L → Calls Tryz.prog 113 #[.slice a L.length cap, .int .i64 i] W fun r W' => ∃ av cv, r = .returned (.slice av (k' + 1) cv) ∧ k' + 1 ≤ cv ∧ RowN W.heap.size W' av (chainP L (k' + 1) (i + 2)) ∧ Below W.heap.size W W') := fun W hA => partsOf_any _ cap L _ e (k' + 1) (by omega) hsg hv ho hch he0 he1 he W hA
  have bhidden : ((sgAt L (i + 1)).toList == [104, 105, 100, 100, 101, 110]) = false := isW_other hc (by decide)
  have bvars : ((sgAt L (i + 1)).toList == [118, 97, 114, 115]) = false := isW_other hc (by decide)
  have blet : ((sgAt L (i + 1)).toList == [108, 101, 116]) = false := isW_other hc (by decide)
  have btake : ((sgAt L (i + 1)).toList == [116, 97, 107, 101]) = false := isW_other hc (by decide)
  have bset : ((sgAt L (i + 1)).toList == [115, 101, 116]) = false := isW_other hc (by decide)
  have bhget : ((sgAt L (i + 1)).toList == [104, 103, 101, 116]) = false := isW_other hc (by decide)
  have bhput : ((sgAt L (i + 1)).toList == [104, 112, 117, 116]) = true := hc
  have b40 : ((sgAt L i).toList == [40]) = true := ho
  obtain ⟨⟨x, hM, hS⟩, hA⟩ := id h
  obtain ⟨sb, off, rfl, hsc, hsm, hsz, hsn⟩ := hA.at (i := i) (by omega) (by omega)
  obtain ⟨sb1, off1, hsa, hsc1, hsm1, hsz1, hsn1⟩ := hA.at (i := i + 1) (by omega) (by omega)
  injection hsa with hsa
  injection hsa with ea eb _
  subst ea eb
  have hc0 := hM.c0
  have hlow := hM.low
  have hAT := hA.arg
  obtain ⟨ii, hii⟩ : ∃ ii : Nat, i = (ii : Int) := ⟨i.toNat, by omega⟩
  have hwr : IntKind.i64.wrap (i + 1) = i + 1 := IntWalk.i64_in _ (by omega)
  have hp0 : (0 : Int) ≤ i + 1 := by omega
  have hp1 : i + 1 < (L.length : Int) := by omega
  have hq0 : (0 : Int) ≤ i := by omega
  have hq1 : i < (L.length : Int) := by omega
  clear hii hM hS hit hke
  generalize hg40 : sgAt L i = s40 at hsc hsm b40
  generalize hg1 : sgAt L (i + 1) = s1 at hsc1 hsm1 bhidden bvars blet btake bset bhget bhput
  clear hg40 hg1 hc ho
  go_enter Tryz.func115, Tryz.ntmps115
  go_wp2_with fail
  refine (HPP.out _ hAT).mono ?_
  rintro r w1 ⟨av, cv, rfl, hcv, hRN, hB1⟩
  have hSt1 := h.call hB1
  have hN1 := Nxt.of_below S hB1
  have hc01 := (hB1.cell (p := ⟨c, 0, none⟩) (by obtain ⟨⟨x, hM, _⟩, _⟩ := h; exact hM.lt)).trans hc0
  have hsc11 := (hB1.cell (p := ⟨sb, off + (i + 1).toNat, none⟩) hsz1).trans hsc1
  have hRI := hRN.row (fun k hk => (hlow k hk).2)
  clear hRN HPP hc0 hsc hsc1 h hAT hA hlow hB1
  rw [HP.out] at hRI
  obtain ⟨g, og, rfl, _, _, hcell0⟩ := hRI 0 (by simp)
  have hcell0' : w1.cell? ⟨g, og, none⟩ = some (.int .i64 (i + 2)) := hcell0
  clear hcell0
  have hkc : ((k' + 1 : Nat) : Int) ≤ (cv : Int) := by omega
  go_wp2_with fail
  refine (HU1.out _ hSt1).mono ?_
  rintro r w2 ⟨rfl, S2, hSt2, hN2⟩
  have hR2 := hRI.nxt hN2
  have hN := hN1.trans hN2
  clear hRI HU1 HP hcell0'
  by_cases hcv1 : cv = 1
  · subst hcv1
    have hk00 : k' = 0 := by omega
    subst hk00
    have HX : Hid (RowI S2 w2 (some ⟨g, og, none⟩) (chainP L 0 (i + 3))) := fun j hj => absurd hj (Nat.not_lt_zero _)
    clear hR2
    go_wp2_with fail
    refine (HC.out _ _ _ _ hSt2 HX.out).mono ?_
    rintro r w3 ⟨rfl, S3, U3, hSt3, hN3, hU3⟩
    have hNN := hN.trans hN3
    clear HC
    go_wp2
    go_end0
    exact ⟨rfl, S3, U3, hSt3, hNN, by omega⟩
  · have HX : Hid (RowI S2 w2 (some ⟨g, og + 1, none⟩) (chainP L k' (i + 3))) := hR2.tail
    clear hR2
    go_wp2_with fail
    refine (HC.out _ _ _ _ hSt2 HX.out).mono ?_
    rintro r w3 ⟨rfl, S3, U3, hSt3, hN3, hU3⟩
    have hNN := hN.trans hN3
    clear HC
    go_wp2
    go_end0
    exact ⟨rfl, S3, U3, hSt3, hNN, by omega⟩

set_option maxRecDepth 100000 in
set_option maxHeartbeats 8000000 in
theorem read_leave {a : Option Addr} {cap : Nat} {L : List ByteArray} {c n : Nat} (_hR : ReadC a cap L c n) (_hK : RBlkC a cap L c n) (hL : L.length ≤ 2000) (hsg : signsB L = true) (S : Nat → Prop) (E : Blks) (lp : Bool) (F : Ot) (U : Nat) (i : Int) (w : World) (h : St S c a cap L E F U w) (hv : ItV L i) (ho : isW (sgAt L i) [40] = true) (hc : isW (sgAt L (i + 1)) [108, 101, 97, 118, 101] = true) (_hn : 2 * farN L i + 1 ≤ n + 1) (_hE : E.length + (n + 1) ≤ 20000) (hU : (U : Int) ≤ i) :
    Calls Tryz.prog 115 #[.pointer (some ⟨c, 0, none⟩), .int .i64 i, .bool lp] w fun r w' => r = .returned (.tuple #[]) ∧ ∃ S' U', St S' c a cap L E (F.add (wk L (n + 1) 0 false i (knE E lp))) U' w' ∧ Nxt S S' w w' ∧ (U' : Int) ≤ itemE L i := by
  have hends := hv.ends
  obtain ⟨hit, k, e, hch, he0, he1, he, hie⟩ := hv.parts ho
  have hke := chI_ends k _ hch he0
  have HW : Hid (wk L (n + 1) 0 false i (knE E lp) = badO (!lp)) := itw_leave (wk L n) (knE E lp) ho hc
  have HPP : Hid (∀ W, ArgT W a L → Calls Tryz.prog 113 #[.slice a L.length cap, .int .i64 i] W fun r W' => ∃ av cv, r = .returned (.slice av k cv) ∧ k ≤ cv ∧ RowN W.heap.size W' av (chainP L k (i + 2)) ∧ Below W.heap.size W W') := fun W hA => partsOf_any _ cap L _ e k (by omega) hsg hv ho hch he0 he1 he W hA
  have bhidden : ((sgAt L (i + 1)).toList == [104, 105, 100, 100, 101, 110]) = false := isW_other hc (by decide)
  have bvars : ((sgAt L (i + 1)).toList == [118, 97, 114, 115]) = false := isW_other hc (by decide)
  have blet : ((sgAt L (i + 1)).toList == [108, 101, 116]) = false := isW_other hc (by decide)
  have btake : ((sgAt L (i + 1)).toList == [116, 97, 107, 101]) = false := isW_other hc (by decide)
  have bset : ((sgAt L (i + 1)).toList == [115, 101, 116]) = false := isW_other hc (by decide)
  have bhget : ((sgAt L (i + 1)).toList == [104, 103, 101, 116]) = false := isW_other hc (by decide)
  have bhput : ((sgAt L (i + 1)).toList == [104, 112, 117, 116]) = false := isW_other hc (by decide)
  have bfn : ((sgAt L (i + 1)).toList == [102, 110]) = false := isW_other hc (by decide)
  have bdo : ((sgAt L (i + 1)).toList == [100, 111]) = false := isW_other hc (by decide)
  have bwhile : ((sgAt L (i + 1)).toList == [119, 104, 105, 108, 101]) = false := isW_other hc (by decide)
  have bfor : ((sgAt L (i + 1)).toList == [102, 111, 114]) = false := isW_other hc (by decide)
  have bleave : ((sgAt L (i + 1)).toList == [108, 101, 97, 118, 101]) = true := hc
  have b40 : ((sgAt L i).toList == [40]) = true := ho
  obtain ⟨⟨x, hM, hS⟩, hA⟩ := id h
  obtain ⟨sb, off, rfl, hsc, hsm, hsz, hsn⟩ := hA.at (i := i) (by omega) (by omega)
  obtain ⟨sb1, off1, hsa, hsc1, hsm1, hsz1, hsn1⟩ := hA.at (i := i + 1) (by omega) (by omega)
  injection hsa with hsa
  injection hsa with ea eb _
  subst ea eb
  have hc0 := hM.c0
  have hlow := hM.low
  have hAT := hA.arg
  obtain ⟨ii, hii⟩ : ∃ ii : Nat, i = (ii : Int) := ⟨i.toNat, by omega⟩
  have hwr : IntKind.i64.wrap (i + 1) = i + 1 := IntWalk.i64_in _ (by omega)
  have hp0 : (0 : Int) ≤ i + 1 := by omega
  have hp1 : i + 1 < (L.length : Int) := by omega
  have hq0 : (0 : Int) ≤ i := by omega
  have hq1 : i < (L.length : Int) := by omega
  clear hii hM hS hit hke
  generalize hg40 : sgAt L i = s40 at hsc hsm b40
  generalize hg1 : sgAt L (i + 1) = s1 at hsc1 hsm1 bhidden bvars blet btake bset bhget bhput bfn bdo bwhile bfor bleave
  clear hg40 hg1 hc ho
  go_enter Tryz.func115, Tryz.ntmps115
  go_wp2_with fail
  refine (HPP.out _ hAT).mono ?_
  rintro r w1 ⟨av, cv, rfl, hcv, hRN, hB1⟩
  have hSt1 := h.call hB1
  have hN1 := Nxt.of_below S hB1
  have hc01 := (hB1.cell (p := ⟨c, 0, none⟩) (by obtain ⟨⟨x, hM, _⟩, _⟩ := h; exact hM.lt)).trans hc0
  have hsc11 := (hB1.cell (p := ⟨sb, off + (i + 1).toNat, none⟩) hsz1).trans hsc1
  have hRI := hRN.row (fun k hk => (hlow k hk).2)
  clear hRN HPP hc0 hsc hsc1 h hAT hA hlow hB1
  clear hRI
  obtain ⟨⟨x, hM, hS⟩, hA⟩ := hSt1
  have k6 := hM.c6
  have f6 := hM.fz 6
  have HF : Hid (St S c (some ⟨sb, off, none⟩) cap L E (F.add (wk L (n + 1) 0 false i (knE E lp))) U (w1.setCell ⟨c, 6, none⟩ (.bool (x.fo || !lp))) ∧ Nxt S S w1 (w1.setCell ⟨c, 6, none⟩ (.bool (x.fo || !lp)))) := by
    have hN6 := Nxt.set S w1 (p := ⟨c, 6, none⟩) (.bool (x.fo || !lp)) hM.own
    have hs6 := said_bad hS (!lp) { x with fo := x.fo || !lp } rfl rfl (by cases x.ft <;> cases x.fo <;> cases x.fv <;> cases lp <;> rfl)
    rw [HW.out]
    exact ⟨⟨⟨_, hM.flag6 _, hs6⟩, hA.nxt hN6⟩, hN6⟩
  clear HW hM hS hA
  generalize hfo : x.fo = fo at k6 HF
  clear hfo
  cases fo
  · cases lp
    · go_wp2
      go_end0
      obtain ⟨h1, h2⟩ := HF.out
      exact ⟨rfl, S, U, h1, hN1.trans h2, by omega⟩
    · go_wp2
      go_end0
      obtain ⟨h1, h2⟩ := HF.out
      exact ⟨rfl, S, U, h1, hN1.trans h2, by omega⟩
  · have HT : Hid ((true || !lp) = true) := (rfl : (true || !lp) = true)
    rw [HT.out] at HF
    go_wp2
    go_end0
    obtain ⟨h1, h2⟩ := HF.out
    exact ⟨rfl, S, U, h1, hN1.trans h2, by omega⟩

set_option maxRecDepth 100000 in
set_option maxHeartbeats 8000000 in
theorem read_next {a : Option Addr} {cap : Nat} {L : List ByteArray} {c n : Nat} (_hR : ReadC a cap L c n) (_hK : RBlkC a cap L c n) (hL : L.length ≤ 2000) (hsg : signsB L = true) (S : Nat → Prop) (E : Blks) (lp : Bool) (F : Ot) (U : Nat) (i : Int) (w : World) (h : St S c a cap L E F U w) (hv : ItV L i) (ho : isW (sgAt L i) [40] = true) (hc : isW (sgAt L (i + 1)) [110, 101, 120, 116] = true) (_hn : 2 * farN L i + 1 ≤ n + 1) (_hE : E.length + (n + 1) ≤ 20000) (hU : (U : Int) ≤ i) :
    Calls Tryz.prog 115 #[.pointer (some ⟨c, 0, none⟩), .int .i64 i, .bool lp] w fun r w' => r = .returned (.tuple #[]) ∧ ∃ S' U', St S' c a cap L E (F.add (wk L (n + 1) 0 false i (knE E lp))) U' w' ∧ Nxt S S' w w' ∧ (U' : Int) ≤ itemE L i := by
  have hends := hv.ends
  obtain ⟨hit, k, e, hch, he0, he1, he, hie⟩ := hv.parts ho
  have hke := chI_ends k _ hch he0
  have HW : Hid (wk L (n + 1) 0 false i (knE E lp) = badO (!lp)) := itw_next (wk L n) (knE E lp) ho hc
  have HPP : Hid (∀ W, ArgT W a L → Calls Tryz.prog 113 #[.slice a L.length cap, .int .i64 i] W fun r W' => ∃ av cv, r = .returned (.slice av k cv) ∧ k ≤ cv ∧ RowN W.heap.size W' av (chainP L k (i + 2)) ∧ Below W.heap.size W W') := fun W hA => partsOf_any _ cap L _ e k (by omega) hsg hv ho hch he0 he1 he W hA
  have bhidden : ((sgAt L (i + 1)).toList == [104, 105, 100, 100, 101, 110]) = false := isW_other hc (by decide)
  have bvars : ((sgAt L (i + 1)).toList == [118, 97, 114, 115]) = false := isW_other hc (by decide)
  have blet : ((sgAt L (i + 1)).toList == [108, 101, 116]) = false := isW_other hc (by decide)
  have btake : ((sgAt L (i + 1)).toList == [116, 97, 107, 101]) = false := isW_other hc (by decide)
  have bset : ((sgAt L (i + 1)).toList == [115, 101, 116]) = false := isW_other hc (by decide)
  have bhget : ((sgAt L (i + 1)).toList == [104, 103, 101, 116]) = false := isW_other hc (by decide)
  have bhput : ((sgAt L (i + 1)).toList == [104, 112, 117, 116]) = false := isW_other hc (by decide)
  have bfn : ((sgAt L (i + 1)).toList == [102, 110]) = false := isW_other hc (by decide)
  have bdo : ((sgAt L (i + 1)).toList == [100, 111]) = false := isW_other hc (by decide)
  have bwhile : ((sgAt L (i + 1)).toList == [119, 104, 105, 108, 101]) = false := isW_other hc (by decide)
  have bfor : ((sgAt L (i + 1)).toList == [102, 111, 114]) = false := isW_other hc (by decide)
  have bleave : ((sgAt L (i + 1)).toList == [108, 101, 97, 118, 101]) = false := isW_other hc (by decide)
  have bnext : ((sgAt L (i + 1)).toList == [110, 101, 120, 116]) = true := hc
  have b40 : ((sgAt L i).toList == [40]) = true := ho
  obtain ⟨⟨x, hM, hS⟩, hA⟩ := id h
  obtain ⟨sb, off, rfl, hsc, hsm, hsz, hsn⟩ := hA.at (i := i) (by omega) (by omega)
  obtain ⟨sb1, off1, hsa, hsc1, hsm1, hsz1, hsn1⟩ := hA.at (i := i + 1) (by omega) (by omega)
  injection hsa with hsa
  injection hsa with ea eb _
  subst ea eb
  have hc0 := hM.c0
  have hlow := hM.low
  have hAT := hA.arg
  obtain ⟨ii, hii⟩ : ∃ ii : Nat, i = (ii : Int) := ⟨i.toNat, by omega⟩
  have hwr : IntKind.i64.wrap (i + 1) = i + 1 := IntWalk.i64_in _ (by omega)
  have hp0 : (0 : Int) ≤ i + 1 := by omega
  have hp1 : i + 1 < (L.length : Int) := by omega
  have hq0 : (0 : Int) ≤ i := by omega
  have hq1 : i < (L.length : Int) := by omega
  clear hii hM hS hit hke
  generalize hg40 : sgAt L i = s40 at hsc hsm b40
  generalize hg1 : sgAt L (i + 1) = s1 at hsc1 hsm1 bhidden bvars blet btake bset bhget bhput bfn bdo bwhile bfor bleave bnext
  clear hg40 hg1 hc ho
  go_enter Tryz.func115, Tryz.ntmps115
  go_wp2_with fail
  refine (HPP.out _ hAT).mono ?_
  rintro r w1 ⟨av, cv, rfl, hcv, hRN, hB1⟩
  have hSt1 := h.call hB1
  have hN1 := Nxt.of_below S hB1
  have hc01 := (hB1.cell (p := ⟨c, 0, none⟩) (by obtain ⟨⟨x, hM, _⟩, _⟩ := h; exact hM.lt)).trans hc0
  have hsc11 := (hB1.cell (p := ⟨sb, off + (i + 1).toNat, none⟩) hsz1).trans hsc1
  have hRI := hRN.row (fun k hk => (hlow k hk).2)
  clear hRN HPP hc0 hsc hsc1 h hAT hA hlow hB1
  clear hRI
  obtain ⟨⟨x, hM, hS⟩, hA⟩ := hSt1
  have k6 := hM.c6
  have f6 := hM.fz 6
  have HF : Hid (St S c (some ⟨sb, off, none⟩) cap L E (F.add (wk L (n + 1) 0 false i (knE E lp))) U (w1.setCell ⟨c, 6, none⟩ (.bool (x.fo || !lp))) ∧ Nxt S S w1 (w1.setCell ⟨c, 6, none⟩ (.bool (x.fo || !lp)))) := by
    have hN6 := Nxt.set S w1 (p := ⟨c, 6, none⟩) (.bool (x.fo || !lp)) hM.own
    have hs6 := said_bad hS (!lp) { x with fo := x.fo || !lp } rfl rfl (by cases x.ft <;> cases x.fo <;> cases x.fv <;> cases lp <;> rfl)
    rw [HW.out]
    exact ⟨⟨⟨_, hM.flag6 _, hs6⟩, hA.nxt hN6⟩, hN6⟩
  clear HW hM hS hA
  generalize hfo : x.fo = fo at k6 HF
  clear hfo
  cases fo
  · cases lp
    · go_wp2
      go_end0
      obtain ⟨h1, h2⟩ := HF.out
      exact ⟨rfl, S, U, h1, hN1.trans h2, by omega⟩
    · go_wp2
      go_end0
      obtain ⟨h1, h2⟩ := HF.out
      exact ⟨rfl, S, U, h1, hN1.trans h2, by omega⟩
  · have HT : Hid ((true || !lp) = true) := (rfl : (true || !lp) = true)
    rw [HT.out] at HF
    go_wp2
    go_end0
    obtain ⟨h1, h2⟩ := HF.out
    exact ⟨rfl, S, U, h1, hN1.trans h2, by omega⟩
end Go.Proofs.YtcpnofagnnncoaaGreatDoor

/-
  Chapter 5, the program: an item is read, word by word (a fn, a for).
-/
namespace Go.Proofs.YtcpnofagnnncoaaGreatDoor
open Go.RowKit

set_option maxRecDepth 100000 in
set_option maxHeartbeats 8000000 in
theorem read_fn {a : Option Addr} {cap : Nat} {L : List ByteArray} {c n : Nat} (hR : ReadC a cap L c n) (hK : RBlkC a cap L c n) (hL : L.length ≤ 2000) (hsg : signsB L = true) (S : Nat → Prop) (E : Blks) (lp : Bool) (F : Ot) (U : Nat) (i : Int) (w : World) (h : St S c a cap L E F U w) (hv : ItV L i) (ho : isW (sgAt L i) [40] = true) (hc : isW (sgAt L (i + 1)) [102, 110] = true) (hn : 2 * farN L i + 1 ≤ n + 1) (hE : E.length + (n + 1) ≤ 20000) (hU : (U : Int) ≤ i) :
    Calls Tryz.prog 115 #[.pointer (some ⟨c, 0, none⟩), .int .i64 i, .bool lp] w fun r w' => r = .returned (.tuple #[]) ∧ ∃ S' U', St S' c a cap L E (F.add (wk L (n + 1) 0 false i (knE E lp))) U' w' ∧ Nxt S S' w w' ∧ (U' : Int) ≤ itemE L i := by
  have hends := hv.ends
  obtain ⟨hit, k, e, hch, he0, he1, he, hie⟩ := hv.parts ho
  have hke := chI_ends k _ hch he0
  have HW : Hid (wk L (n + 1) 0 false i (knE E lp) = fnO L (wk L n) i (knE E lp)) := itw_fn (wk L n) (knE E lp) ho hc
  obtain ⟨n1, kq, e7, m, e6, q1, q2, q3, q4, q5, q6, q7, q8, q9, q10⟩ := hv.fn ho hc
  have hee : e = e6 := by omega
  subst hee
  have hqe := chainQ_ends kq _ q1 q2
  have hme := chain_ends m _ q6 q7
  obtain ⟨k1, hk1e, hit2, q11⟩ := chI_next hch (by omega)
  have hx2 : itemE L (i + 2) = e7 + 1 := by
    obtain ⟨k2, e2, r1, r2, r3, r4, r5⟩ := item_parts n1 hit2
    rw [show i + 2 + 1 = i + 3 by omega] at r1
    have := (chI_one _ _ _ r1 (chI_Q kq _ q1) (itemE_none (Or.inr (Or.inr r4))) (itemE_none (Or.inr (Or.inr q4)))).2
    omega
  rw [hx2] at q11
  have hkm := (chI_one _ _ _ q11 (chI_V m _ (chain_deeds m _ q6).1) (itemE_none (Or.inr (Or.inr he))) (itemE_none (Or.inr (Or.inr he)))).1
  subst hkm
  subst hk1e
  have HP : Hid (chainP L (k1 + 1) (i + 2) = (i + 2) :: chainP L k1 (e7 + 1)) := (by rw [chainP_succ, hx2] : chainP L (k1 + 1) (i + 2) = (i + 2) :: chainP L k1 (e7 + 1))
  have HC : Hid (∀ ad cd W, St S c a cap L E F U W → RowI S W ad (chainP L k1 (e7 + 1)) → Calls Tryz.prog 139 #[.pointer (some ⟨c, 0, none⟩), .int .i64 (i + 2), .slice ad k1 cd] W fun r w' => r = .returned (.tuple #[]) ∧ ∃ S' U', St S' c a cap L E (F.add (wk L (n + 1) 0 false i (knE E lp))) U' w' ∧ Nxt S S' W w' ∧ (U' : Int) ≤ e) := fun ad cd W hW hX => by
    rw [HW.out]
    exact readFunction_any hR hK hL hsg S E lp F U i e7 e kq k1 ad cd W hW hX hends.1 n1 hit2 q1 q2 q3 q4 q5 q6 q7 q8 q9 hn hE hU
  have hk0 : (0 : Int) < ((k1 + 1 : Nat) : Int) := by omega
  have hk1 : (1 : Int) ≤ ((k1 + 1 : Nat) : Int) := by omega
  clear HW n1 q1 q5 q6 q11 hx2
  have HPP : Hid (∀ W, ArgT W a L → Calls Tryz.prog 113 #[.slice a L.length cap, .int .i64 i] W fun r W' => ∃ av cv, r = .returned (.slice av (k1 + 1) cv) ∧ k1 + 1 ≤ cv ∧ RowN W.heap.size W' av (chainP L (k1 + 1) (i + 2)) ∧ Below W.heap.size W W') := fun W hA => partsOf_any _ cap L _ e (k1 + 1) (by omega) hsg hv ho hch he0 he1 he W hA
  have bhidden : ((sgAt L (i + 1)).toList == [104, 105, 100, 100, 101, 110]) = false := isW_other hc (by decide)
  have bvars : ((sgAt L (i + 1)).toList == [118, 97, 114, 115]) = false := isW_other hc (by decide)
  have blet : ((sgAt L (i + 1)).toList == [108, 101, 116]) = false := isW_other hc (by decide)
  have btake : ((sgAt L (i + 1)).toList == [116, 97, 107, 101]) = false := isW_other hc (by decide)
  have bset : ((sgAt L (i + 1)).toList == [115, 101, 116]) = false := isW_other hc (by decide)
  have bhget : ((sgAt L (i + 1)).toList == [104, 103, 101, 116]) = false := isW_other hc (by decide)
  have bhput : ((sgAt L (i + 1)).toList == [104, 112, 117, 116]) = false := isW_other hc (by decide)
  have bfn : ((sgAt L (i + 1)).toList == [102, 110]) = true := hc
  have b40 : ((sgAt L i).toList == [40]) = true := ho
  obtain ⟨⟨x, hM, hS⟩, hA⟩ := id h
  obtain ⟨sb, off, rfl, hsc, hsm, hsz, hsn⟩ := hA.at (i := i) (by omega) (by omega)
  obtain ⟨sb1, off1, hsa, hsc1, hsm1, hsz1, hsn1⟩ := hA.at (i := i + 1) (by omega) (by omega)
  injection hsa with hsa
  injection hsa with ea eb _
  subst ea eb
  have hc0 := hM.c0
  have hlow := hM.low
  have hAT := hA.arg
  obtain ⟨ii, hii⟩ : ∃ ii : Nat, i = (ii : Int) := ⟨i.toNat, by omega⟩
  have hwr : IntKind.i64.wrap (i + 1) = i + 1 := IntWalk.i64_in _ (by omega)
  have hp0 : (0 : Int) ≤ i + 1 := by omega
  have hp1 : i + 1 < (L.length : Int) := by omega
  have hq0 : (0 : Int) ≤ i := by omega
  have hq1 : i < (L.length : Int) := by omega
  clear hii hM hS hit hke
  generalize hg40 : sgAt L i = s40 at hsc hsm b40
  generalize hg1 : sgAt L (i + 1) = s1 at hsc1 hsm1 bhidden bvars blet btake bset bhget bhput bfn
  clear hg40 hg1 hc ho
  go_enter Tryz.func115, Tryz.ntmps115
  go_wp2_with fail
  refine (HPP.out _ hAT).mono ?_
  rintro r w1 ⟨av, cv, rfl, hcv, hRN, hB1⟩
  have hSt1 := h.call hB1
  have hN1 := Nxt.of_below S hB1
  have hc01 := (hB1.cell (p := ⟨c, 0, none⟩) (by obtain ⟨⟨x, hM, _⟩, _⟩ := h; exact hM.lt)).trans hc0
  have hsc11 := (hB1.cell (p := ⟨sb, off + (i + 1).toNat, none⟩) hsz1).trans hsc1
  have hRI := hRN.row (fun k hk => (hlow k hk).2)
  clear hRN HPP hc0 hsc hsc1 h hAT hA hlow hB1
  rw [HP.out] at hRI
  obtain ⟨g, og, rfl, _, _, hcell0⟩ := hRI 0 (by simp)
  have hcell0' : w1.cell? ⟨g, og, none⟩ = some (.int .i64 (i + 2)) := hcell0
  clear hcell0
  have hkc : ((k1 + 1 : Nat) : Int) ≤ (cv : Int) := by omega
  have hStd := hSt1.call ((Below.refl w1.heap.size w1).drew)
  clear HP
  by_cases hcv1 : cv = 1
  · subst hcv1
    have hk00 : k1 = 0 := by omega
    subst hk00
    have HX : RowI S w1.drew (some ⟨g, og, none⟩) (chainP L 0 (e7 + 1)) := fun j hj => absurd hj (Nat.not_lt_zero _)
    have HCC := HC.out (some ⟨g, og, none⟩) 0 w1.drew hStd HX
    clear HX hRI HC
    go_upto_region 18 with fail
    first | go_region_with (refine HCC.mono ?_; rintro r w2 ⟨rfl, S2, U2, hSt2, hN2, hU2⟩) | fail
    all_goals go_wp2
    all_goals go_end0
    all_goals exact ⟨rfl, S2, U2, hSt2, hN1.trans ⟨hN2.os, hN2.tape, hN2.output, hN2.size, hN2.block, hN2.sub⟩, by omega⟩
  · have HX : RowI S w1.drew (some ⟨g, og + 1, none⟩) (chainP L k1 (e7 + 1)) := hRI.tail
    have HCC := HC.out (some ⟨g, og + 1, none⟩) (cv - 1) w1.drew hStd HX
    clear HX hRI HC
    go_upto_region 18 with fail
    first | go_region_with (refine HCC.mono ?_; rintro r w2 ⟨rfl, S2, U2, hSt2, hN2, hU2⟩) | fail
    all_goals go_wp2
    all_goals go_end0
    all_goals exact ⟨rfl, S2, U2, hSt2, hN1.trans ⟨hN2.os, hN2.tape, hN2.output, hN2.size, hN2.block, hN2.sub⟩, by omega⟩

set_option maxRecDepth 100000 in
set_option maxHeartbeats 8000000 in
theorem read_for {a : Option Addr} {cap : Nat} {L : List ByteArray} {c n : Nat} (hR : ReadC a cap L c n) (_hK : RBlkC a cap L c n) (hL : L.length ≤ 2000) (hsg : signsB L = true) (S : Nat → Prop) (E : Blks) (lp : Bool) (F : Ot) (U : Nat) (i : Int) (w : World) (h : St S c a cap L E F U w) (hv : ItV L i) (ho : isW (sgAt L i) [40] = true) (hc : isW (sgAt L (i + 1)) [102, 111, 114] = true) (hn : 2 * farN L i + 1 ≤ n + 1) (hE : E.length + (n + 1) ≤ 20000) (hU : (U : Int) ≤ i) :
    Calls Tryz.prog 115 #[.pointer (some ⟨c, 0, none⟩), .int .i64 i, .bool lp] w fun r w' => r = .returned (.tuple #[]) ∧ ∃ S' U', St S' c a cap L E (F.add (wk L (n + 1) 0 false i (knE E lp))) U' w' ∧ Nxt S S' w w' ∧ (U' : Int) ≤ itemE L i := by
  have hends := hv.ends
  obtain ⟨hit, k, e, hch, he0, he1, he, hie⟩ := hv.parts ho
  have hke := chI_ends k _ hch he0
  have HW : Hid (wk L (n + 1) 0 false i (knE E lp) = (wk L n 0 false (i + 3) (knE E lp)).add ((wk L n 0 false (itemE L (i + 3)) (knE E lp)).add (wk L n 0 false (itemE L (itemE L (i + 3))) (addN (inLoop (knE E lp) true) [sgAt L (i + 2)])))) := itw_for (wk L n) (knE E lp) ho hc
  obtain ⟨n1, n2, n3, n4, n5, n6⟩ := hv.name_three ho hc
  have hx2 : itemE L (i + 2) = i + 3 := by rw [item_one (by omega) (by omega) (nm_plain n1)]; omega
  have m3 := n3.ends
  obtain ⟨x4, hx3⟩ : ∃ y, itemE L (i + 3) = y := ⟨_, rfl⟩
  rw [hx3] at n4 n5 n6 m3 HW
  have m4 := n4.ends
  obtain ⟨x5, hx4⟩ : ∃ y, itemE L x4 = y := ⟨_, rfl⟩
  rw [hx4] at n5 n6 m4 HW
  have m5 := n5.ends
  have hP : chainP L k (i + 2) = (i + 2) :: (i + 3) :: x4 :: x5 :: chainP L (k - 4) (itemE L x5) ∧ 4 ≤ k := by
    obtain ⟨k1, rfl, _, q1⟩ := chI_next hch (by omega)
    rw [hx2] at q1
    obtain ⟨k2, rfl, _, q2⟩ := chI_next q1 (by omega)
    rw [hx3] at q2
    obtain ⟨k3, rfl, _, q3⟩ := chI_next q2 (by omega)
    rw [hx4] at q3
    obtain ⟨k4, rfl, _, _⟩ := chI_next q3 (by omega)
    exact ⟨by rw [chainP_succ, hx2, chainP_succ, hx3, chainP_succ, hx4, chainP_succ]; rfl, by omega⟩
  obtain ⟨hP1, hk4⟩ := hP
  have HP : Hid (chainP L k (i + 2) = (i + 2) :: (i + 3) :: x4 :: x5 :: chainP L (k - 4) (itemE L x5)) := hP1
  clear hP1
  have hf := farR_lt (L := L) hends.1 (by omega : i < i + 3) (by omega)
  have hf5 := farR_lt (L := L) hends.1 (by omega : i < x5) (by omega)
  have hup : UpL L [i + 3, x4] (i + 3) x5 := ⟨Int.le_refl _, n3, by rw [hx3]; exact ⟨Int.le_refl _, n4, by rw [hx4]; exact Int.le_refl _⟩⟩
  have HU1 : Hid (∀ ad cd W, St S c a cap L E F U W → RowI S W ad [i + 3, x4] → Calls Tryz.prog 85 #[.pointer (some ⟨c, 0, none⟩), .slice ad 2 cd, .bool lp] W fun r w' => r = .returned (.tuple #[]) ∧ ∃ S' U', St S' c a cap L E ((F.add (wk L n 0 false (i + 3) (knE E lp))).add (wk L n 0 false x4 (knE E lp))) U' w' ∧ Nxt S S' W w' ∧ (U' : Int) ≤ x5) := fun ad cd W hW hX => by
    have := readAll_any hR S E lp F U (i + 3) x5 [i + 3, x4] ad 2 cd W rfl hW hX hup (by omega) (by simp) (by omega) (by omega) (by omega)
    rw [show outs (fun p => wk L n 0 false p (knE E lp)) [i + 3, x4] = (wk L n 0 false (i + 3) (knE E lp)).add (wk L n 0 false x4 (knE E lp)) from by show (wk L n 0 false (i + 3) (knE E lp)).add ((wk L n 0 false x4 (knE E lp)).add Ot.none) = _; rw [Ot.add_none], ← Ot.add_assoc] at this
    exact this
  have HC : Hid (∀ (S1 : Nat → Prop) (U1 : Nat) (W : World), (U1 : Int) ≤ x5 → St S1 c a cap L E ((F.add (wk L n 0 false (i + 3) (knE E lp))).add (wk L n 0 false x4 (knE E lp))) U1 W → Calls Tryz.prog 140 #[.pointer (some ⟨c, 0, none⟩), .int .i64 (i + 2), .int .i64 x5] W fun r w' => r = .returned (.tuple #[]) ∧ ∃ S' U', St S' c a cap L E (F.add (wk L (n + 1) 0 false i (knE E lp))) U' w' ∧ Nxt S1 S' W w' ∧ (U' : Int) ≤ itemE L x5) := fun S1 U1 W hU1 hW => by
    have := readTurn_any hR S1 E _ U1 (i + 2) x5 W hW (by omega) n2 n5 (by omega) hE hU1
    rw [knE_names E [sgAt L (i + 2)] lp true] at this
    rw [HW.out, ← Ot.add_assoc, ← Ot.add_assoc]
    exact this
  have hk1 : (1 : Int) ≤ (k : Int) := by omega
  have hk3 : (3 : Int) < (k : Int) := by omega
  have hk0 : (0 : Int) < (k : Int) := by omega
  clear HW n1 n3 n4 n5 hx2 hx3 hx4 hup hf hf5
  have HPP : Hid (∀ W, ArgT W a L → Calls Tryz.prog 113 #[.slice a L.length cap, .int .i64 i] W fun r W' => ∃ av cv, r = .returned (.slice av k cv) ∧ k ≤ cv ∧ RowN W.heap.size W' av (chainP L k (i + 2)) ∧ Below W.heap.size W W') := fun W hA => partsOf_any _ cap L _ e k (by omega) hsg hv ho hch he0 he1 he W hA
  have bhidden : ((sgAt L (i + 1)).toList == [104, 105, 100, 100, 101, 110]) = false := isW_other hc (by decide)
  have bvars : ((sgAt L (i + 1)).toList == [118, 97, 114, 115]) = false := isW_other hc (by decide)
  have blet : ((sgAt L (i + 1)).toList == [108, 101, 116]) = false := isW_other hc (by decide)
  have btake : ((sgAt L (i + 1)).toList == [116, 97, 107, 101]) = false := isW_other hc (by decide)
  have bset : ((sgAt L (i + 1)).toList == [115, 101, 116]) = false := isW_other hc (by decide)
  have bhget : ((sgAt L (i + 1)).toList == [104, 103, 101, 116]) = false := isW_other hc (by decide)
  have bhput : ((sgAt L (i + 1)).toList == [104, 112, 117, 116]) = false := isW_other hc (by decide)
  have bfn : ((sgAt L (i + 1)).toList == [102, 110]) = false := isW_other hc (by decide)
  have bdo : ((sgAt L (i + 1)).toList == [100, 111]) = false := isW_other hc (by decide)
  have bwhile : ((sgAt L (i + 1)).toList == [119, 104, 105, 108, 101]) = false := isW_other hc (by decide)
  have bfor : ((sgAt L (i + 1)).toList == [102, 111, 114]) = true := hc
  have b40 : ((sgAt L i).toList == [40]) = true := ho
  obtain ⟨⟨x, hM, hS⟩, hA⟩ := id h
  obtain ⟨sb, off, rfl, hsc, hsm, hsz, hsn⟩ := hA.at (i := i) (by omega) (by omega)
  obtain ⟨sb1, off1, hsa, hsc1, hsm1, hsz1, hsn1⟩ := hA.at (i := i + 1) (by omega) (by omega)
  injection hsa with hsa
  injection hsa with ea eb _
  subst ea eb
  have hc0 := hM.c0
  have hlow := hM.low
  have hAT := hA.arg
  obtain ⟨ii, hii⟩ : ∃ ii : Nat, i = (ii : Int) := ⟨i.toNat, by omega⟩
  have hwr : IntKind.i64.wrap (i + 1) = i + 1 := IntWalk.i64_in _ (by omega)
  have hp0 : (0 : Int) ≤ i + 1 := by omega
  have hp1 : i + 1 < (L.length : Int) := by omega
  have hq0 : (0 : Int) ≤ i := by omega
  have hq1 : i < (L.length : Int) := by omega
  clear hii hM hS hit hke
  generalize hg40 : sgAt L i = s40 at hsc hsm b40
  generalize hg1 : sgAt L (i + 1) = s1 at hsc1 hsm1 bhidden bvars blet btake bset bhget bhput bfn bdo bwhile bfor
  clear hg40 hg1 hc ho
  go_enter Tryz.func115, Tryz.ntmps115
  go_wp2_with fail
  refine (HPP.out _ hAT).mono ?_
  rintro r w1 ⟨av, cv, rfl, hcv, hRN, hB1⟩
  have hSt1 := h.call hB1
  have hN1 := Nxt.of_below S hB1
  have hc01 := (hB1.cell (p := ⟨c, 0, none⟩) (by obtain ⟨⟨x, hM, _⟩, _⟩ := h; exact hM.lt)).trans hc0
  have hsc11 := (hB1.cell (p := ⟨sb, off + (i + 1).toNat, none⟩) hsz1).trans hsc1
  have hRI := hRN.row (fun k hk => (hlow k hk).2)
  clear hRN HPP hc0 hsc hsc1 h hAT hA hlow hB1
  rw [HP.out] at hRI
  obtain ⟨g, og, rfl, _, _, _⟩ := hRI 0 (by simp)
  have hkc : (k : Int) ≤ (cv : Int) := by omega
  have hc4 : (4 : Int) ≤ (cv : Int) := by omega
  have hcv1 : cv ≠ 1 := by omega
  have hc3 : (3 : Int) ≤ (cv : Int) := by omega
  have HX : Hid (RowI S w1 (some ⟨g, og + 1, none⟩) [i + 3, x4]) := fun j hj => by
    have hj2 : j < 2 := hj
    rcases (by omega : j = 0 ∨ j = 1) with rfl | rfl
    · exact hRI.tail 0 (by simp)
    · exact hRI.tail 1 (by simp)
  have HRI : Hid (RowI S w1 (some ⟨g, og, none⟩) ((i + 2) :: (i + 3) :: x4 :: x5 :: chainP L (k - 4) (itemE L x5))) := hRI
  clear hRI HP
  go_wp2_with fail
  refine (HU1.out _ _ _ hSt1 HX.out).mono ?_
  rintro r w2 ⟨rfl, S2, U2, hSt2, hN2, hU2⟩
  have hR2 := HRI.out.nxt hN2
  have hN := hN1.trans hN2
  have hcell0' : w2.cell? ⟨g, og, none⟩ = some (.int .i64 (i + 2)) := by
    obtain ⟨gg, oo, hga, _, _, hgg⟩ := hR2 0 (by simp)
    injection hga with hga
    injection hga with e1 e2 _
    subst e1 e2
    exact hgg
  have hcell3' : w2.cell? ⟨g, og + 3, none⟩ = some (.int .i64 x5) := by
    obtain ⟨gg, oo, hga, _, _, hgg⟩ := hR2 3 (by simp)
    injection hga with hga
    injection hga with e1 e2 _
    subst e1 e2
    exact hgg
  have hStd := hSt2.call ((Below.refl w2.heap.size w2).drew)
  have HCC := HC.out S2 U2 w2.drew hU2 hStd
  clear HC HU1 HX HRI hR2 hSt1 hSt2
  go_upto_region 26 with fail
  first | go_region_with (refine HCC.mono ?_; rintro r w3 ⟨rfl, S3, U3, hSt3, hN3, hU3⟩) | fail
  all_goals go_wp2
  all_goals go_end0
  all_goals exact ⟨rfl, S3, U3, hSt3, hN.trans ⟨hN3.os, hN3.tape, hN3.output, hN3.size, hN3.block, hN3.sub⟩, by omega⟩
end Go.Proofs.YtcpnofagnnncoaaGreatDoor

/-
  Chapter 5, the program: every item, every block.
-/
namespace Go.Proofs.YtcpnofagnnncoaaGreatDoor
open Go.RowKit

set_option maxRecDepth 100000 in
set_option maxHeartbeats 4000000 in
theorem read_form0 {a : Option Addr} {cap : Nat} {L : List ByteArray} {c n : Nat} (hL : L.length ≤ 2000) (S : Nat → Prop) (E : Blks) (lp : Bool) (F : Ot) (U : Nat) (i : Int) (w : World) (h : St S c a cap L E F U w) (hv : ItV L i) (ho : isW (sgAt L i) [40] = false) (hU : (U : Int) ≤ i) :
    Calls Tryz.prog 115 #[.pointer (some ⟨c, 0, none⟩), .int .i64 i, .bool lp] w fun r w' => r = .returned (.tuple #[]) ∧ ∃ S' U', St S' c a cap L E (F.add (wk L (n + 1) 0 false i (knE E lp))) U' w' ∧ Nxt S S' w w' ∧ (U' : Int) ≤ itemE L i := by
  have hends := hv.ends
  have HW : Hid (wk L (n + 1) 0 false i (knE E lp) = if nmB (sgAt L i) then useO (knE E lp) (sgAt L i) else Ot.none) := itw_alone (wk L n) (knE E lp) ho
  have HC := readAlone_any S c a cap L E lp F U i w h hL hv ho hU
  rw [← HW.out] at HC
  have HC' : Hid (Calls Tryz.prog 137 #[.pointer (some ⟨c, 0, none⟩), .int .i64 i] w fun e w' => e = .returned (.tuple #[]) ∧ ∃ S' U', St S' c a cap L E (F.add (wk L (n + 1) 0 false i (knE E lp))) U' w' ∧ Nxt S S' w w' ∧ (U' : Int) ≤ itemE L i) := HC
  have b40 : ((sgAt L i).toList == [40]) = false := ho
  obtain ⟨⟨x, hM, hS⟩, hA⟩ := h
  obtain ⟨sb, off, rfl, hsc, hsm, hsz, hsn⟩ := hA.at (i := i) (by omega) (by omega)
  have hc0 := hM.c0
  have hq0 : (0 : Int) ≤ i := by omega
  have hq1 : i < (L.length : Int) := by omega
  clear HC HW hM hS hA ho hv
  generalize hg40 : sgAt L i = s40 at hsc hsm b40
  clear hg40
  go_enter Tryz.func115, Tryz.ntmps115
  go_wp2_with fail
  refine HC'.out.mono ?_
  rintro r w2 ⟨rfl, S2, U2, hSt2, hN2, hU2⟩
  clear HC'
  go_wp2
  refine bodyPost_ret (results_none rfl _ _ _) rfl ?_
  exact ⟨rfl, S2, U2, hSt2, hN2, hU2⟩

theorem read_any {a : Option Addr} {cap : Nat} {L : List ByteArray} {c n : Nat} (hR : ReadC a cap L c n) (hK : RBlkC a cap L c n) (hL : L.length ≤ 2000) (hsg : signsB L = true) : ReadC a cap L c (n + 1) := fun S E lp F U i w h hv hn hE hU => by
  cases ho : isW (sgAt L i) [40]
  · exact read_form0 hL S E lp F U i w h hv ho hU
  cases h1 : isW (sgAt L (i + 1)) [104, 105, 100, 100, 101, 110]
  · cases h2 : isW (sgAt L (i + 1)) [118, 97, 114, 115]
    · cases h3 : isW (sgAt L (i + 1)) [108, 101, 116]
      · cases h4 : isW (sgAt L (i + 1)) [116, 97, 107, 101]
        · cases h5 : isW (sgAt L (i + 1)) [115, 101, 116]
          · cases h6 : isW (sgAt L (i + 1)) [104, 103, 101, 116]
            · cases h7 : isW (sgAt L (i + 1)) [104, 112, 117, 116]
              · cases h8 : isW (sgAt L (i + 1)) [102, 110]
                · cases h9 : isW (sgAt L (i + 1)) [100, 111]
                  · cases h10 : isW (sgAt L (i + 1)) [119, 104, 105, 108, 101]
                    · cases h11 : isW (sgAt L (i + 1)) [102, 111, 114]
                      · cases h12 : isW (sgAt L (i + 1)) [108, 101, 97, 118, 101]
                        · cases h13 : isW (sgAt L (i + 1)) [110, 101, 120, 116]
                          · exact read_rest hR hK hL hsg S E lp F U i w h hv ho h1 h2 h3 h4 h5 h6 h7 h8 h9 h10 h11 h12 h13 hn hE hU
                          · exact read_next hR hK hL hsg S E lp F U i w h hv ho h13 hn hE hU
                        · exact read_leave hR hK hL hsg S E lp F U i w h hv ho h12 hn hE hU
                      · exact read_for hR hK hL hsg S E lp F U i w h hv ho h11 hn hE hU
                    · exact read_while hR hK hL hsg S E lp F U i w h hv ho h10 hn hE hU
                  · exact read_do hR hK hL hsg S E lp F U i w h hv ho h9 hn hE hU
                · exact read_fn hR hK hL hsg S E lp F U i w h hv ho h8 hn hE hU
              · exact read_hput hR hK hL hsg S E lp F U i w h hv ho h7 hn hE hU
            · exact read_hget hR hK hL hsg S E lp F U i w h hv ho h6 hn hE hU
          · exact read_set hR hK hL hsg S E lp F U i w h hv ho h5 hn hE hU
        · exact read_take hR hK hL hsg S E lp F U i w h hv ho h4 hn hE hU
      · exact read_let hR hK hL hsg S E lp F U i w h hv ho h3 hn hE hU
    · exact read_vars hR hK hL hsg S E lp F U i w h hv ho h2 hn hE hU
  · exact read_hidden hR hK hL hsg S E lp F U i w h hv ho h1 hn hE hU
theorem reads_any {a : Option Addr} {cap : Nat} {L : List ByteArray} {c : Nat} (hL : L.length ≤ 2000) (hsg : signsB L = true) : ∀ n, ReadC a cap L c n ∧ RBlkC a cap L c n
  | 0 => ⟨fun _ _ _ _ _ _ _ _ _ hn => by omega, fun _ _ _ _ _ _ _ _ _ _ _ _ _ _ _ _ _ _ hn => by omega⟩
  | n + 1 => by
    obtain ⟨h1, h2⟩ := reads_any hL hsg n
    exact ⟨read_any h1 h2 hL hsg, readBlock_any h1 hL hsg⟩
end Go.Proofs.YtcpnofagnnncoaaGreatDoor
