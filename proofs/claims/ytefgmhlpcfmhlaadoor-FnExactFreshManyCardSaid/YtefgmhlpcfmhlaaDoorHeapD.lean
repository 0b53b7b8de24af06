/-
  Chapter 7, the program: what goes down in a heap.
-/
import Derived.Test.YtefgmhlpcfmhlaaDoorHeapM
namespace Go.Proofs.YtefgmhlpcfmhlaaDoor
open Go.RowKit

set_option maxHeartbeats 4000000 in
theorem down_any (n0 B g cp n : Nat) (H : List ByteArray) (w : World) (h : HpS n0 B g cp H w) (hD : DnI H n 0) (hn : n ≤ H.length) (hl : H.length ≤ 9000000) :
    Calls Tryd.prog 37 #[.iface 40 (.pointer (some ⟨B, 0, none⟩)), .int .i64 0, .int .i64 (n : Int)] w fun e w' => (∃ b, e = .returned (.bool b)) ∧ ∃ K, K.length = H.length ∧ Hp K n ∧ (∀ s, Has K n s ↔ Has H n s) ∧ HpS n0 B g cp K w' ∧ Nxt (HpF B g) (HpF B g) w w' := by
  go_enter Tryd.func37, Tryd.ntmps37
  go_wp2
  go_loopw [7] (fun v7 wr => ∃ (i : Nat) (K : List ByteArray), v7 = .int .i64 (i : Int) ∧ i ≤ n ∧ Hid (K.length = H.length) ∧ DnI K n i ∧ Hid (∀ s, Has K n s ↔ Has H n s) ∧ HpS n0 B g cp K wr ∧ Nxt (HpF B g) (HpF B g) w wr) (fun v7 _ => n - (intOf v7).toNat)
  case atStart => exact ⟨0, H, rfl, Nat.zero_le _, rfl, hD, fun _ => Iff.rfl, h, Nxt.refl _ _⟩
  case round =>
    obtain ⟨i, K, rfl, hi, HL, hI, HM, hS, hN⟩ := hrel
    have hnK : n ≤ K.length := by rw [HL.out]; exact hn
    have hnb : n ≤ 9000000 := by omega
    obtain ⟨j1, hj1⟩ : ∃ j1 : Nat, j1 = 2 * i + 1 := ⟨_, rfl⟩
    have e1 : 2 * (i : Int) + 1 = (j1 : Int) := by omega
    have b1 : i < j1 := by omega
    have b2 : j1 ≤ 18000001 := by omega
    by_cases h1 : n ≤ j1
    · have HE : Hid (Hp K n) := dn_end hI (fun c c0 c1 c2 => by omega)
      have h1' : (n : Int) ≤ (j1 : Int) := by omega
      clear hI hj1
      go_wp2
      go_ret
      exact ⟨⟨_, rfl⟩, K, HL.out, HE.out, HM.out, hS, hN⟩
    · obtain ⟨j2, hj2⟩ : ∃ j2 : Nat, j2 = j1 + 1 := ⟨_, rfl⟩
      have e2 : (j1 : Int) + 1 = (j2 : Int) := by omega
      have h1' : ¬ (n : Int) ≤ (j1 : Int) := by omega
      have h1'' : ¬ (j1 : Int) < 0 := by omega
      have b3 : i < j2 := by omega
      have HJ1 : (j1 - 1) / 2 = i := by omega
      have HJ2 : (j2 - 1) / 2 = i := by omega
      have HC : Hid (∀ c, 0 < c → (c - 1) / 2 = i → c = j1 ∨ c = j2) := fun c c0 c2 => by omega
      have b4 : j2 ≤ 18000002 := by omega
      have b5 : 0 < j1 := by omega
      have b6 : 0 < j2 := by omega
      clear hj1 hj2
      by_cases h2 : n ≤ j2
      · have h2' : ¬ (j2 : Int) < (n : Int) := by omega
        have HMn : Hid (∀ c, 0 < c → c < n → (c - 1) / 2 = i → leB (gT K j1) (gT K c)) := fun c c0 c1 c2 => by
          rcases HC.out c c0 c2 with e | e
          · rw [e]; exact le_refl' _
          · omega
        have mL2 := meth_less B wr _ hS.box.cell
        have eL2 := ent_less
        have HLs := hless_any hS (show j1 < K.length by omega) (show i < K.length by omega)
        cases hq : ltB (gT K j1) (gT K i)
        · rw [hq] at HLs
          have HE : Hid (Hp K n) := dn_end hI (fun c c0 c1 c2 => le_trans' (show leB (gT K i) (gT K j1) from hq) (HMn.out c c0 c1 c2))
          clear hI hq HMn
          go_wp2_with fail
          refine HLs.mono ?_
          rintro e w5 ⟨rfl, hb5⟩
          clear mL2 eL2 HLs
          go_wp2
          go_ret
          exact ⟨⟨_, rfl⟩, K, HL.out, HE.out, HM.out, hS.call hb5, hN.trans (Nxt.of_below _ hb5)⟩
        · rw [hq] at HLs
          have HI : Hid (DnI (swp K i j1) n j1) := dn_step hI (by rw [HL.out]; exact hn) (by omega) (by omega) (by omega) HMn.out hq
          have HM2 : Hid (∀ s, Has (swp K i j1) n s ↔ Has H n s) := fun s => (has_swp (H := K) (i := i) (j := j1) (n := n) (by omega) (by omega) (by rw [HL.out]; exact hn) s).trans (HM.out s)
          clear hI hq HMn
          go_wp2_with fail
          refine HLs.mono ?_
          rintro e w5 ⟨rfl, hb5⟩
          have hS5 := hS.call hb5
          have mS := meth_swap B w5 _ hS5.box.cell
          have eS := ent_swap
          clear mL2 eL2 HLs
          go_wp2_with fail
          refine (hswap_any hS5 (show i < K.length by omega) (show j1 < K.length by omega)).mono ?_
          rintro e w6 ⟨rfl, hS6, hN6⟩
          clear mS eS
          go_wp2
          go_roundw
          case rel => exact ⟨j1, swp K i j1, rfl, by omega, (by rw [swp_len]; exact HL.out : (swp K i j1).length = H.length), HI.out, HM2.out, hS6, (hN.trans (Nxt.of_below _ hb5)).trans hN6⟩
          case measure => simp [intOf]; omega
      · have h2' : (j2 : Int) < (n : Int) := by omega
        have mL := meth_less B wr _ hS.box.cell
        have eL := ent_less
        have HL0 := hless_any hS (show j2 < K.length by omega) (show j1 < K.length by omega)
        cases hz : ltB (gT K j2) (gT K j1)
        · rw [hz] at HL0
          have HMn : Hid (∀ c, 0 < c → c < n → (c - 1) / 2 = i → leB (gT K j1) (gT K c)) := fun c c0 c1 c2 => by
            rcases HC.out c c0 c2 with e | e
            · rw [e]; exact le_refl' _
            · rw [e]; exact hz
          clear hz
          go_wp2_with fail
          refine HL0.mono ?_
          rintro e w4 ⟨rfl, hb4⟩
          have hS4 := hS.call hb4
          have hN4 := hN.trans (Nxt.of_below _ hb4)
          clear mL eL HL0
          have mL2 := meth_less B w4 _ hS4.box.cell
          have eL2 := ent_less
          have HLs := hless_any hS4 (show j1 < K.length by omega) (show i < K.length by omega)
          cases hq : ltB (gT K j1) (gT K i)
          · rw [hq] at HLs
            have HE : Hid (Hp K n) := dn_end hI (fun c c0 c1 c2 => le_trans' (show leB (gT K i) (gT K j1) from hq) (HMn.out c c0 c1 c2))
            clear hI hq HMn
            go_wp2_with fail
            refine HLs.mono ?_
            rintro e w5 ⟨rfl, hb5⟩
            clear mL2 eL2 HLs
            go_wp2
            go_ret
            exact ⟨⟨_, rfl⟩, K, HL.out, HE.out, HM.out, hS4.call hb5, hN4.trans (Nxt.of_below _ hb5)⟩
          · rw [hq] at HLs
            have HI : Hid (DnI (swp K i j1) n j1) := dn_step hI (by rw [HL.out]; exact hn) (by omega) (by omega) (by omega) HMn.out hq
            have HM2 : Hid (∀ s, Has (swp K i j1) n s ↔ Has H n s) := fun s => (has_swp (H := K) (i := i) (j := j1) (n := n) (by omega) (by omega) (by rw [HL.out]; exact hn) s).trans (HM.out s)
            clear hI hq HMn
            go_wp2_with fail
            refine HLs.mono ?_
            rintro e w5 ⟨rfl, hb5⟩
            have hS5 := hS4.call hb5
            have mS := meth_swap B w5 _ hS5.box.cell
            have eS := ent_swap
            clear mL2 eL2 HLs
            go_wp2_with fail
            refine (hswap_any hS5 (show i < K.length by omega) (show j1 < K.length by omega)).mono ?_
            rintro e w6 ⟨rfl, hS6, hN6⟩
            clear mS eS
            go_wp2
            go_roundw
            case rel => exact ⟨j1, swp K i j1, rfl, by omega, (by rw [swp_len]; exact HL.out : (swp K i j1).length = H.length), HI.out, HM2.out, hS6, (hN4.trans (Nxt.of_below _ hb5)).trans hN6⟩
            case measure => simp [intOf]; omega
        · rw [hz] at HL0
          have HMn : Hid (∀ c, 0 < c → c < n → (c - 1) / 2 = i → leB (gT K j2) (gT K c)) := fun c c0 c1 c2 => by
            rcases HC.out c c0 c2 with e | e
            · rw [e]; exact le_of_lt' hz
            · rw [e]; exact le_refl' _
          clear hz
          go_wp2_with fail
          refine HL0.mono ?_
          rintro e w4 ⟨rfl, hb4⟩
          have hS4 := hS.call hb4
          have hN4 := hN.trans (Nxt.of_below _ hb4)
          clear mL eL HL0
          have mL2 := meth_less B w4 _ hS4.box.cell
          have eL2 := ent_less
          have HLs := hless_any hS4 (show j2 < K.length by omega) (show i < K.length by omega)
          cases hq : ltB (gT K j2) (gT K i)
          · rw [hq] at HLs
            have HE : Hid (Hp K n) := dn_end hI (fun c c0 c1 c2 => le_trans' (show leB (gT K i) (gT K j2) from hq) (HMn.out c c0 c1 c2))
            clear hI hq HMn
            go_wp2_with fail
            refine HLs.mono ?_
            rintro e w5 ⟨rfl, hb5⟩
            clear mL2 eL2 HLs
            go_wp2
            go_ret
            exact ⟨⟨_, rfl⟩, K, HL.out, HE.out, HM.out, hS4.call hb5, hN4.trans (Nxt.of_below _ hb5)⟩
          · rw [hq] at HLs
            have HI : Hid (DnI (swp K i j2) n j2) := dn_step hI (by rw [HL.out]; exact hn) (by omega) (by omega) (by omega) HMn.out hq
            have HM2 : Hid (∀ s, Has (swp K i j2) n s ↔ Has H n s) := fun s => (has_swp (H := K) (i := i) (j := j2) (n := n) (by omega) (by omega) (by rw [HL.out]; exact hn) s).trans (HM.out s)
            clear hI hq HMn
            go_wp2_with fail
            refine HLs.mono ?_
            rintro e w5 ⟨rfl, hb5⟩
            have hS5 := hS4.call hb5
            have mS := meth_swap B w5 _ hS5.box.cell
            have eS := ent_swap
            clear mL2 eL2 HLs
            go_wp2_with fail
            refine (hswap_any hS5 (show i < K.length by omega) (show j2 < K.length by omega)).mono ?_
            rintro e w6 ⟨rfl, hS6, hN6⟩
            clear mS eS
            go_wp2
            go_roundw
            case rel => exact ⟨j2, swp K i j2, rfl, by omega, (by rw [swp_len]; exact HL.out : (swp K i j2).length = H.length), HI.out, HM2.out, hS6, (hN4.trans (Nxt.of_below _ hb5)).trans hN6⟩
            case measure => simp [intOf]; omega

end Go.Proofs.YtefgmhlpcfmhlaaDoor
