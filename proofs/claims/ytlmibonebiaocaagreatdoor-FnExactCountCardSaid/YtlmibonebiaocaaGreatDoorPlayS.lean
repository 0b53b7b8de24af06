/-
  Chapter 4, the model: how deep an item is, whether some signs are a play, how many there are of a word.
-/
import Derived.Test.YtlmibonebiaocaaGreatDoorFormM
import Derived.Test.YtlmibonebiaocaaGreatDoorItemW
namespace Go.Proofs.YtlmibonebiaocaaGreatDoor
open Go.RowKit

theorem itemF_ends (L : List ByteArray) : ∀ f i o, itemF L f i o = -1 ∨ ((i : Int) < itemF L f i o ∧ itemF L f i o ≤ (L.length : Int))
  | 0, _, _ => Or.inl rfl
  | f + 1, i, o => by
    unfold itemF
    split
    · split
      · have := itemF_ends L f (i + 1) (o + 1); omega
      · split
        · split
          · left; rfl
          · split
            · right; omega
            · have := itemF_ends L f (i + 1) (o - 1); omega
        · split
          · right; omega
          · have := itemF_ends L f (i + 1) o; omega
    · left; rfl
theorem itemE_ends (L : List ByteArray) (i : Int) : Ends L i (itemE L i) := by
  unfold itemE Ends
  split
  · left; rfl
  · have := itemF_ends L (L.length + 1) i.toNat 0
    omega

/-- How deep it goes in the next so many signs. -/
def dpF (L : List ByteArray) : Nat → Nat → Int → Int → Int
  | 0, _, _, m => m
  | f + 1, i, n, m =>
    if isW (L.getD i ⟨#[]⟩) [40] then dpF L f (i + 1) (n + 1) (max m (n + 1))
    else if isW (L.getD i ⟨#[]⟩) [41] then dpF L f (i + 1) (n - 1) m else dpF L f (i + 1) n m
/-- How deep the item that begins at i is. -/
def depE (L : List ByteArray) (i : Int) : Int := if itemE L i < 0 then -1 else dpF L (itemE L i - i).toNat i.toNat 0 0

set_option maxHeartbeats 400000 in
theorem l1Max_any (x y : Int) (w : World) :
    Calls Tryz.prog 63 #[.int .i64 x, .int .i64 y] w fun e w' => e = .returned (.int .i64 (max x y)) ∧ w' = w := by
  by_cases h : y < x
  · have HM : Hid (max x y = x) := (by omega : max x y = x)
    go_enter Tryz.func63, Tryz.ntmps63
    go_wp2
    go_ret
    exact ⟨by rw [HM.out]; rfl, rfl⟩
  · have HM : Hid (max x y = y) := (by omega : max x y = y)
    go_enter Tryz.func63, Tryz.ntmps63
    go_wp2
    go_ret
    exact ⟨by rw [HM.out]; rfl, rfl⟩

set_option maxHeartbeats 2000000 in
theorem depthOfS_any (a : Option Addr) (cap : Nat) (L : List ByteArray) (i : Int) (w : World) (h : ArgT w a L) (hL : L.length ≤ 1048576) (hi : I64 i) :
    Calls Tryz.prog 31 #[.slice a L.length cap, .int .i64 i] w fun e w' => e = .returned (.int .i64 (depE L i)) ∧ Below w.heap.size w w' := by
  have hE := itemE_ends L i
  by_cases hneg : itemE L i < 0
  · have HD : Hid (depE L i = -1) := (by unfold depE; rw [if_pos hneg] : depE L i = -1)
    go_enter Tryz.func31, Tryz.ntmps31
    go_wp2_with fail
    refine (itemEndS_any a cap L i _ h hL hi).mono ?_
    rintro e w1 ⟨rfl, hb1⟩
    generalize itemE L i = e at hneg
    go_wp2
    go_ret
    exact ⟨by rw [HD.out]; rfl, hb1⟩
  have HD : Hid (depE L i = dpF L (itemE L i - i).toNat i.toNat 0 0) := (by unfold depE; rw [if_neg hneg] : depE L i = dpF L (itemE L i - i).toNat i.toNat 0 0)
  unfold Ends at hE
  obtain ⟨k0, rfl⟩ : ∃ k : Nat, i = (k : Int) := ⟨i.toNat, by omega⟩
  go_enter Tryz.func31, Tryz.ntmps31
  go_wp2_with fail
  refine (itemEndS_any a cap L (k0 : Int) _ h hL hi).mono ?_
  rintro e w1 ⟨rfl, hb1⟩
  generalize itemE L (k0 : Int) = E at hneg hE HD
  obtain ⟨e0, rfl⟩ : ∃ k : Nat, E = (k : Int) := ⟨E.toNat, by omega⟩
  have hA1 := h.call hb1
  go_wp2
  go_loopw [1, 6, 7] (fun v1 v6 v7 wr => ∃ (k : Nat) (n m : Int), v1 = .int .i64 (k : Int) ∧ v6 = .int .i64 n ∧ v7 = .int .i64 m ∧ k ≤ e0 ∧ -(k : Int) ≤ n ∧ n ≤ (k : Int) ∧ 0 ≤ m ∧ m ≤ 1048576 ∧ Hid (dpF L (e0 - k) k n m = depE L (k0 : Int)) ∧ Below w.heap.size w wr) (fun v1 _ _ _ => e0 - (intOf v1).toNat)
  case atStart => exact ⟨k0, 0, 0, rfl, rfl, rfl, by omega, by omega, by omega, by omega, by omega, by rw [HD.out, show ((e0 : Int) - (k0 : Int)).toNat = e0 - k0 by omega]; rfl, hb1⟩
  case round =>
    obtain ⟨k, n, m, rfl, rfl, rfl, hk, hn0, hn1, hm0, hm1, HT, hB⟩ := hrel
    by_cases hlt : k < e0
    · have hk' : k < L.length := by omega
      obtain ⟨sb, off, rfl, hs, hc, _⟩ := h k hk'
      have hc' := (hB.cell (p := ⟨sb, off + k, none⟩) hs).trans hc
      have hG : L.getD k ⟨#[]⟩ = L[k] := by simp [List.getD, hk']
      have hstep : e0 - k = (e0 - (k + 1)) + 1 := by omega
      have hT := HT.out
      rw [hstep] at hT
      unfold dpF at hT
      rw [hG] at hT
      cases h40 : isW L[k] [40]
      · cases h41 : isW L[k] [41]
        · rw [h40, h41] at hT
          have HN : Hid (dpF L (e0 - (k + 1)) (k + 1) n m = depE L (k0 : Int)) := hT
          have b40 : (L[k].toList == [40]) = false := h40
          have b41 : (L[k].toList == [41]) = false := h41
          clear h40 h41 HT hc hT hG hstep HD
          generalize L[k] = t at hc' b40 b41
          go_wp2
          go_roundw
          case rel => exact ⟨k + 1, n, m, by go_num, rfl, rfl, by omega, by omega, by omega, hm0, hm1, HN.out, hB⟩
          case measure => simp [intOf]; omega
        · rw [h40, h41] at hT
          have HN : Hid (dpF L (e0 - (k + 1)) (k + 1) (n - 1) m = depE L (k0 : Int)) := hT
          have b40 : (L[k].toList == [40]) = false := h40
          have b41 : (L[k].toList == [41]) = true := h41
          clear h40 h41 HT hc hT hG hstep HD
          generalize L[k] = t at hc' b40 b41
          go_wp2
          go_roundw
          case rel => exact ⟨k + 1, n - 1, m, by go_num, rfl, rfl, by omega, by omega, by omega, hm0, hm1, HN.out, hB⟩
          case measure => simp [intOf]; omega
      · rw [h40] at hT
        have HN : Hid (dpF L (e0 - (k + 1)) (k + 1) (n + 1) (max m (n + 1)) = depE L (k0 : Int)) := hT
        have b40 : (L[k].toList == [40]) = true := h40
        clear h40 HT hc hT hG hstep HD
        generalize L[k] = t at hc' b40
        go_wp2_with fail
        refine (l1Max_any m (n + 1) _).mono ?_
        rintro e w2 ⟨rfl, rfl⟩
        have hmx : 0 ≤ max m (n + 1) ∧ max m (n + 1) ≤ 1048576 := by omega
        generalize max m (n + 1) = M at HN hmx
        go_wp2
        go_roundw
        case rel => exact ⟨k + 1, n + 1, M, by go_num, rfl, rfl, by omega, by omega, by omega, hmx.1, hmx.2, HN.out, hB⟩
        case measure => simp [intOf]; omega
    · have e1 : k = e0 := by omega
      subst e1
      have HE : Hid (depE L (k0 : Int) = m) := (by rw [← HT.out, Nat.sub_self]; rfl : depE L (k0 : Int) = m)
      clear HT HD
      go_wp2
      go_ret
      exact ⟨by rw [HE.out]; rfl, hB⟩

/-- Deeds behind one another from there on, none too deep. -/
def playF (L : List ByteArray) : Nat → Int → Bool
  | 0, i => decide (i = (L.length : Int))
  | f + 1, i => if 0 ≤ i ∧ i < (L.length : Int) then (if 60 < depE L i then false else playF L f (frm L (8 * L.length + 40) 1 i)) else decide (i = (L.length : Int))
/-- Is it a play? -/
def playB (L : List ByteArray) : Bool := decide (L.length ≤ 2000) && (signsB L && playF L (L.length + 1) 0)
theorem playF_end {L : List ByteArray} {f : Nat} {i : Int} (h : ¬ (0 ≤ i ∧ i < (L.length : Int))) : playF L f i = decide (i = (L.length : Int)) := by
  cases f with
  | zero => rfl
  | succ f => unfold playF; rw [if_neg h]
theorem playF_deep {L : List ByteArray} {f : Nat} {i : Int} (h : 0 ≤ i ∧ i < (L.length : Int)) (hd : 60 < depE L i) : playF L (f + 1) i = false := by
  unfold playF
  rw [if_pos h, if_pos hd]
theorem playF_go {L : List ByteArray} {f : Nat} {i : Int} (h : 0 ≤ i ∧ i < (L.length : Int)) (hd : ¬ 60 < depE L i) : playF L (f + 1) i = playF L f (frm L (8 * L.length + 40) 1 i) := by
  show (if 0 ≤ i ∧ i < (L.length : Int) then (if 60 < depE L i then false else playF L f (frm L (8 * L.length + 40) 1 i)) else decide (i = (L.length : Int))) = _
  rw [if_pos h, if_neg hd]

set_option maxHeartbeats 2000000 in
theorem playOkS_any (a : Option Addr) (cap : Nat) (L : List ByteArray) (w : World) (h : ArgT w a L) (hL : L.length ≤ 1048576) :
    Calls Tryz.prog 14 #[.slice a L.length cap] w fun e w' => e = .returned (.bool (playB L)) ∧ Below w.heap.size w w' := by
  by_cases hbig : 2000 < L.length
  · have HP : Hid (playB L = false) := (by unfold playB; rw [decide_eq_false (by omega)]; rfl : playB L = false)
    go_enter Tryz.func14, Tryz.ntmps14
    go_wp2
    go_ret
    exact ⟨by rw [HP.out]; rfl, Below.refl _ _⟩
  cases hs : signsB L
  · have HP : Hid (playB L = false) := (by unfold playB; rw [hs]; simp : playB L = false)
    have HQ : Hid (signsB L = false) := hs
    clear hs
    go_enter Tryz.func14, Tryz.ntmps14
    go_wp2_with fail
    refine (l2Signs_any a cap L _ h hL).mono ?_
    rintro e w1 ⟨rfl, hb1⟩
    rw [HQ.out]
    go_wp2
    go_ret
    exact ⟨by rw [HP.out]; rfl, hb1⟩
  have HP : Hid (playB L = playF L (L.length + 1) 0) := (by unfold playB; rw [hs, decide_eq_true (by omega)]; rfl : playB L = playF L (L.length + 1) 0)
  have HQ : Hid (signsB L = true) := hs
  clear hs
  go_enter Tryz.func14, Tryz.ntmps14
  go_wp2_with fail
  refine (l2Signs_any a cap L _ h hL).mono ?_
  rintro e w1 ⟨rfl, hb1⟩
  rw [HQ.out]
  go_wp2
  go_loopw [3] (fun v wr => ∃ (f : Nat) (x : Int), v = .int .i64 x ∧ -1 ≤ x ∧ x ≤ (L.length : Int) ∧ (L.length : Int) ≤ x + f ∧ Hid (playF L f x = playB L) ∧ Below w.heap.size w wr ∨ v = .int .i64 (-1) ∧ playB L = false ∧ f = 0 ∧ x = 0 ∧ Below w.heap.size w wr) (fun v _ => farN L (intOf v))
  case atStart => exact ⟨L.length + 1, 0, Or.inl ⟨rfl, by omega, by omega, by omega, HP.out.symm, hb1⟩⟩
  case round =>
    obtain ⟨f, x, hrel⟩ := hrel
    rcases hrel with ⟨rfl, hx0, hx1, hf, HT, hB⟩ | ⟨rfl, hp, _, _, hB⟩
    · by_cases hin : 0 ≤ x ∧ x < (L.length : Int)
      · obtain ⟨h0, h1⟩ := hin
        have hA := h.call hB
        obtain ⟨g, rfl⟩ : ∃ g, f = g + 1 := ⟨f - 1, by omega⟩
        by_cases hd : 60 < depE L x
        · have HE : Hid (playB L = false) := (HT.out.symm.trans (playF_deep ⟨h0, h1⟩ hd) : playB L = false)
          clear HT HP
          go_wp2_with fail
          refine (depthOfS_any a cap L x _ hA hL ⟨by omega, by omega⟩).mono ?_
          rintro e w2 ⟨rfl, hb2⟩
          generalize depE L x = D at hd
          go_wp2
          go_ret
          exact ⟨by rw [HE.out]; rfl, bstep hB hb2⟩
        · have HE : Hid (playF L g (frm L (8 * L.length + 40) 1 x) = playB L) := ((HT.out.symm.trans (playF_go ⟨h0, h1⟩ hd)).symm : playF L g (frm L (8 * L.length + 40) 1 x) = playB L)
          have hE := (frm_good L (8 * L.length + 40)).1 1 x (by decide)
          have hfe := far_ends hE (by omega)
          have hp := far_pos (L := L) (i := x) h0 (by omega)
          have hfar : 8 * farN L x + 1 ≤ 8 * L.length + 40 := by unfold farN; rw [if_neg (by omega)]; omega
          clear HT HP
          go_wp2_with fail
          refine (depthOfS_any a cap L x _ hA hL ⟨by omega, by omega⟩).mono ?_
          rintro e w2 ⟨rfl, hb2⟩
          have hA2 := hA.call hb2
          have hB2 := bstep hB hb2
          generalize depE L x = D at hd
          go_wp2_with fail
          refine ((forms_all a cap L hL (8 * L.length + 40)).deed x true _ hA2 ⟨by omega, by omega⟩ hfar).mono ?_
          rintro e w3 ⟨rfl, hb3⟩
          have hB3 := bstep hB2 hb3
          rw [show (if true = true then 1 else 2) = 1 from rfl]
          generalize frm L (8 * L.length + 40) 1 x = y at HE hE hfe
          unfold Ends at hE
          go_wp2
          go_roundw
          case rel =>
            by_cases hy : y = -1
            · refine ⟨0, 0, Or.inr ⟨by rw [hy], ?_, rfl, rfl, hB3⟩⟩
              rw [← HE.out, hy, playF_end (by omega)]
              exact decide_eq_false (by omega)
            · exact ⟨g, y, Or.inl ⟨rfl, by omega, by omega, by omega, HE.out, hB3⟩⟩
          case measure => simp [intOf]; omega
      · have HE : Hid (playB L = decide (x = (L.length : Int))) := (HT.out.symm.trans (playF_end hin) : playB L = decide (x = (L.length : Int)))
        clear HT HP
        by_cases hneg : x < 0
        · have hne : (x == (L.length : Int)) = false := by simp; omega
          have HF : Hid (playB L = false) := (by rw [HE.out]; exact decide_eq_false (by omega) : playB L = false)
          go_wp2
          go_ret
          exact ⟨by rw [HF.out]; rfl, hB⟩
        · have e1 : x = (L.length : Int) := by omega
          subst e1
          have HF : Hid (playB L = true) := (by rw [HE.out]; exact decide_eq_true rfl : playB L = true)
          go_wp2
          go_ret
          exact ⟨by rw [HF.out]; simp, hB⟩
    · have HF : Hid (playB L = false) := hp
      clear hp HP
      have hne : ((-1 : Int) == (L.length : Int)) = false := beq_eq_false_iff_ne.mpr (by omega)
      go_wp2
      go_ret
      exact ⟨by rw [HF.out]; rfl, hB⟩

/-- How many ( with that word right behind them among the first k. -/
def cntF (L : List ByteArray) (hd : ByteArray) : Nat → Nat
  | 0 => 0
  | k + 1 => cntF L hd k + (if isW (L.getD k ⟨#[]⟩) [40] && ((L.getD (k + 1) ⟨#[]⟩).toList == hd.toList) then 1 else 0)
theorem cnt_le (L : List ByteArray) (hd : ByteArray) : ∀ k, cntF L hd k ≤ k
  | 0 => Nat.le_refl _
  | k + 1 => by
    have := cnt_le L hd k
    unfold cntF
    split <;> omega
def countE (L : List ByteArray) (hd : ByteArray) : Int := if playB L then (cntF L hd (L.length - 1) : Int) else -1

set_option maxHeartbeats 2000000 in
theorem l4Count_any (a : Option Addr) (cap : Nat) (L : List ByteArray) (hd : ByteArray) (w : World) (h : ArgT w a L) (hL : L.length ≤ 1048576) :
    Calls Tryz.prog 33 #[.slice a L.length cap, .string hd] w fun e w' => e = .returned (.int .i64 (cntF L hd (L.length - 1) : Int)) ∧ Below w.heap.size w w' := by
  go_enter Tryz.func33, Tryz.ntmps33
  go_wp2
  go_loopw [5, 6] (fun v5 v6 wr => ∃ k : Nat, v5 = .int .i64 (cntF L hd k : Int) ∧ v6 = .int .i64 (k : Int) ∧ k ≤ L.length - 1 ∧ Below w.heap.size w wr) (fun _ v6 _ => L.length - (intOf v6).toNat)
  case atStart => exact ⟨0, rfl, rfl, Nat.zero_le _, Below.refl _ _⟩
  case round =>
    obtain ⟨k, rfl, rfl, hk, hB⟩ := hrel
    have hle := cnt_le L hd k
    by_cases hlt : k + 1 < L.length
    · obtain ⟨sb, off, rfl, hs, hc, _⟩ := h k (by omega)
      obtain ⟨sb', off', hae, hs', hcj, _⟩ := h (k + 1) hlt
      injection hae with hae
      injection hae with e1 e2 _
      subst e1
      subst e2
      have c1 := (hB.cell (p := ⟨sb, off + k, none⟩) hs).trans hc
      have c2 := (hB.cell (p := ⟨sb, off + (k + 1), none⟩) hs).trans hcj
      have HC : Hid (cntF L hd (k + 1) = cntF L hd k + (if isW L[k] [40] && (L[k + 1].toList == hd.toList) then 1 else 0)) := by
        show cntF L hd (k + 1) = _
        have g1 : L.getD k ⟨#[]⟩ = L[k] := by simp [List.getD, show k < L.length by omega]
        have g2 : L.getD (k + 1) ⟨#[]⟩ = L[k + 1] := by simp [List.getD, hlt]
        rw [← g1, ← g2]
        rfl
      clear hc hcj
      generalize L[k] = t at c1 HC
      generalize L[k + 1] = u at c2 HC
      generalize cntF L hd k = N at HC hle
      cases h40 : isW t [40]
      · have HN : Hid (cntF L hd (k + 1) = N) := (by rw [HC.out, h40]; rfl : cntF L hd (k + 1) = N)
        have b40 : (t.toList == [40]) = false := h40
        clear HC h40
        go_wp2
        go_roundw
        case rel => exact ⟨k + 1, by rw [HN.out], by go_num, by omega, hB⟩
        case measure => simp [intOf]; omega
      · have b40 : (t.toList == [40]) = true := h40
        cases hu : (u.toList == hd.toList)
        · have HN : Hid (cntF L hd (k + 1) = N) := (by rw [HC.out, h40, hu]; rfl : cntF L hd (k + 1) = N)
          clear HC h40
          go_wp2
          go_roundw
          case rel => exact ⟨k + 1, by rw [HN.out], by go_num, by omega, hB⟩
          case measure => simp [intOf]; omega
        · have HN : Hid (cntF L hd (k + 1) = N + 1) := (by rw [HC.out, h40, hu]; rfl : cntF L hd (k + 1) = N + 1)
          clear HC h40
          go_wp2
          go_roundw
          case rel => exact ⟨k + 1, by rw [HN.out]; go_num, by go_num, by omega, hB⟩
          case measure => simp [intOf]; omega
    · have e1 : cntF L hd (L.length - 1) = cntF L hd k := by
        by_cases h0 : L.length = 0
        · have : k = 0 := by omega
          rw [this, h0]
        · rw [show L.length - 1 = k by omega]
      have HE : Hid (cntF L hd (L.length - 1) = cntF L hd k) := e1
      clear e1
      generalize cntF L hd k = N at HE hle
      go_wp2
      go_ret
      exact ⟨by rw [HE.out]; rfl, hB⟩

set_option maxHeartbeats 1000000 in
theorem countS_any (a : Option Addr) (cap : Nat) (L : List ByteArray) (hd : ByteArray) (w : World) (h : ArgT w a L) (hL : L.length ≤ 1048576) :
    Calls Tryz.prog 16 #[.slice a L.length cap, .string hd] w fun e w' => e = .returned (.int .i64 (countE L hd)) ∧ Below w.heap.size w w' := by
  cases hp : playB L
  · have HC : Hid (countE L hd = -1) := (by unfold countE; rw [hp]; rfl : countE L hd = -1)
    have HP : Hid (playB L = false) := hp
    clear hp
    go_enter Tryz.func16, Tryz.ntmps16
    go_wp2_with fail
    refine (playOkS_any a cap L _ h hL).mono ?_
    rintro e w1 ⟨rfl, hb1⟩
    rw [HP.out]
    go_wp2
    go_ret
    exact ⟨by rw [HC.out]; rfl, hb1⟩
  · have HC : Hid (countE L hd = (cntF L hd (L.length - 1) : Int)) := (by unfold countE; rw [hp]; rfl : countE L hd = (cntF L hd (L.length - 1) : Int))
    have HP : Hid (playB L = true) := hp
    clear hp
    go_enter Tryz.func16, Tryz.ntmps16
    go_wp2_with fail
    refine (playOkS_any a cap L _ h hL).mono ?_
    rintro e w1 ⟨rfl, hb1⟩
    rw [HP.out]
    go_wp2_with fail
    refine (l4Count_any a cap L hd _ (h.call hb1) hL).mono ?_
    rintro e w2 ⟨rfl, hb2⟩
    go_wp2
    go_ret
    exact ⟨by rw [HC.out]; rfl, bstep hb1 hb2⟩

end Go.Proofs.YtlmibonebiaocaaGreatDoor
