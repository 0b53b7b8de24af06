/-
  The law of who is who, walked: whatever bytes it draws from, it answers true, and turns nothing that was there.
-/
import Derived.Test.YtcmjmoikalfdkaaEnvH
import Derived.Test.YtcmjmoikalfdkaaEnvC
namespace Go.Proofs.Ytcmjmoikalfdkaa
open Go.RowKit

theorem bound_len' (X : List Bd) (T : List ByteArray) (s : Bool) (f : Int) (hX : X.length ≤ 500) (hT : T.length ≤ 10) : (boundE X T s f).length ≤ 510 := by
  unfold boundE
  split
  · split
    · rw [List.length_append, news_length]; omega
    · omega
  · simp
theorem bound_ok (X : List Bd) (T : List ByteArray) (s : Bool) (f : Int) (hX : ∀ x ∈ X, okBd x) (hT : ∀ i (h : i < T.length), T[i].size ≤ maxLen) : ∀ x ∈ boundE X T s f, okBd x := by
  unfold boundE
  split
  · split
    · exact news_ok X T s (atI f) T.length hX hT (Nat.le_refl _) (fun i => wrap_i64 _)
    · exact hX
  · intro x hx
    cases hx

set_option maxRecDepth 100000 in
set_option maxHeartbeats 2000000 in
theorem lawEnv (a : Option Addr) (len cap : Nat) (w : World) (hcode : Code w.heap.size a len w) (_hml : len ≤ maxLen) :
    Calls Try.prog 5 #[.slice a len cap] w fun e w' => e = .returned (.bool true) ∧ Below w.heap.size w w' := by
  go_enter Try.func5, Try.ntmps5
  go_wp2_with fail
  refine (big_any a len cap _).mono ?_
  rintro e w1 ⟨rfl, hw1⟩
  subst hw1
  by_cases hbig : (4096 : Int) < len
  · go_wp2
    go_ret
    exact ⟨rfl, Below.refl _ _⟩
  have hlen : len ≤ 4096 := by omega
  go_wp2_with fail
  refine (drawBound_any a len cap _ hcode hlen).mono ?_
  rintro e w2 ⟨g, cp, X, g2, c2, T, s, f, rfl, hr2, hg, hokX, hXl, hT2, hg2, hm, hTl, hc21, hc22, hf0, hf1, hb2⟩
  have HU : Hid (∀ W, RowF W g (X.flatMap bC) → RowT W g2 T → Calls Try.prog 39 #[.slice (some ⟨g, 0, none⟩) X.length cp, .slice (some ⟨g2, 0, none⟩) T.length c2, .bool s, .int .i64 f] W fun e w' => ∃ g cp, e = .returned (.slice (some ⟨g, 0, none⟩) (boundE X T s f).length cp) ∧ OwnB w' W.heap.size g (boundE X T s f).length cp (boundE X T s f) ∧ Below W.heap.size W w') := fun W hA hT => boundI_any g cp X _ c2 T s f W hA hokX (by omega) (hT.arg hm) (by omega)
  have HV : Hid (∀ W, RowF W g (X.flatMap bC) → RowT W g2 T → Calls Try.prog 42 #[.slice (some ⟨g, 0, none⟩) X.length cp, .slice (some ⟨g2, 0, none⟩) T.length c2, .bool s, .int .i64 f] W fun e w' => ∃ g cp, e = .returned (.slice (some ⟨g, 0, none⟩) (boundE X T s f).length cp) ∧ OwnB w' W.heap.size g (boundE X T s f).length cp (boundE X T s f) ∧ Below W.heap.size W w') := fun W hA hT => boundS_any g cp X _ c2 T s f W hA hokX (by omega) (hT.arg hm) (by omega) (by unfold I64; omega)
  have hZl := bound_len' X T s f hXl hTl
  have HZ : Hid (∀ x ∈ boundE X T s f, okBd x) := bound_ok X T s f hokX hm
  obtain ⟨Z, hZ⟩ : ∃ Z, Z = boundE X T s f := ⟨_, rfl⟩
  rw [← hZ] at HU HV hZl HZ
  have HZE : Hid (Z = boundE X T s f) := hZ
  clear hZ
  go_wp2_with fail
  refine (HU.out _ hr2 hT2).mono ?_
  rintro e w3 ⟨gz, cz, rfl, hOz, hb3⟩
  have hrz := hOz.row.1
  have hzc : (Z.length : Int) ≤ (cz : Int) := by
    rcases hOz.2 with ⟨e, _⟩ | ⟨_, _, _, e, _, _, h1, _⟩
    · cases e
    · cases e
      omega
  have hB3 := bstep hb2 hb3
  have hr3 := hr2.call hb3
  have hT3 := hT2.call hb3
  clear hb2 hb3 hr2 hT2 HU hOz
  go_wp2_with fail
  refine (drawLooked_any a len cap _ (hcode.up hB3.size hB3) hlen).mono ?_
  rintro e w4 ⟨gq, cq, Q, t, sq, rfl, hrq, hgq, hokQ, hQl, hb4⟩
  have hB4 := bstep hB3 hb4
  have hr4 := hr3.call hb4
  have hT4 := hT3.call hb4
  have hrz4 := hrz.call hb4
  clear hB3 hb4 hr3 hT3 hrz
  go_wp2_with fail
  refine (HV.out _ hr4 hT4).mono ?_
  rintro e w5 ⟨gy, cy, rfl, hOy, hb5⟩
  have hry := hOy.row.1
  have hB5 := bstep hB4 hb5
  replace hr4 := hr4.call hb5
  replace hT4 := hT4.call hb5
  replace hrz4 := hrz4.call hb5
  replace hrq := hrq.call hb5
  clear hb5 hB4 HV hOy
  go_wp2_with fail
  refine (likeEnv_same _ _ _ _ Z _ (rowB hrz4) (rowB hry) (by omega)).mono ?_
  rintro e w6 ⟨rfl, hb6⟩
  have hB6 := bstep hB5 hb6
  replace hr4 := hr4.call hb6
  replace hT4 := hT4.call hb6
  replace hrz4 := hrz4.call hb6
  replace hrq := hrq.call hb6
  clear hb6 hB5 hry
  go_wp2_with fail
  refine (lookedI_any _ _ Q t sq _ (rowB hrq) hokQ (by omega)).mono ?_
  rintro e w7 ⟨rfl, hb7⟩
  have hB7 := bstep hB6 hb7
  replace hr4 := hr4.call hb7
  replace hT4 := hT4.call hb7
  replace hrz4 := hrz4.call hb7
  replace hrq := hrq.call hb7
  clear hb7 hB6
  go_wp2_with fail
  refine (lookedS_any _ _ Q t sq _ (rowB hrq) hokQ (by omega)).mono ?_
  rintro e w8 ⟨rfl, hb8⟩
  have hB8 := bstep hB7 hb8
  replace hr4 := hr4.call hb8
  replace hT4 := hT4.call hb8
  replace hrz4 := hrz4.call hb8
  clear hb8 hB7 hrq
  generalize lookE Q t sq = zq
  go_wp2_with fail
  refine (envOkI_any _ _ X _ (rowB hr4) hokX (by omega)).mono ?_
  rintro e w9 ⟨rfl, hb9⟩
  have hB9 := bstep hB8 hb9
  replace hr4 := hr4.call hb9
  replace hT4 := hT4.call hb9
  replace hrz4 := hrz4.call hb9
  clear hb9 hB8
  go_wp2_with fail
  refine (envOkS_any _ _ X _ (rowB hr4) hokX (by omega)).mono ?_
  rintro e w10 ⟨rfl, hb10⟩
  have hB10 := bstep hB9 hb10
  replace hr4 := hr4.call hb10
  replace hT4 := hT4.call hb10
  replace hrz4 := hrz4.call hb10
  clear hb10 hB9
  have hes := fun W (hr : RowF W g (X.flatMap bC)) => envOkS_any (some ⟨g, 0, none⟩) cp X W (rowB hr) hokX (by omega)
  cases hq : envB X
  · have HZ0 : Hid (Z = []) := (by rw [HZE.out]; unfold boundE; rw [hq]; rfl : Z = [])
    have HL0 : Hid (lookE X ⟨#[120]⟩ false = -1) := (by unfold lookE; rw [hq]; rfl : lookE X ⟨#[120]⟩ false = -1)
    rw [hq] at hes
    go_wp2_with fail
    refine (hes _ hr4).mono ?_
    rintro e w11 ⟨rfl, hb11⟩
    have hB11 := bstep hB10 hb11
    replace hr4 := hr4.call hb11
    rw [HZ0.out]
    clear hb11 hB10 hes hq hZl hrz4
    go_wp2_with fail
    refine (lookedI_any _ _ X ⟨#[120]⟩ false _ (rowB hr4) hokX (by omega)).mono ?_
    rintro e w12 ⟨rfl, hb12⟩
    rw [HL0.out]
    have hB12 := bstep hB11 hb12
    clear hb12
    go_wp2
    go_ret
    exact ⟨rfl, hB12⟩
  · rw [hq] at hes
    go_wp2_with fail
    refine (hes _ hr4).mono ?_
    rintro e w11 ⟨rfl, hb11⟩
    have hB11 := bstep hB10 hb11
    replace hr4 := hr4.call hb11
    replace hT4 := hT4.call hb11
    replace hrz4 := hrz4.call hb11
    clear hb11 hB10 hes
    by_cases hln : (Z.length : Int) = (X.length : Int) + (T.length : Int)
    · have HW : Hid (Z = X ++ news T s (atI f) T.length) := (by
        rw [HZE.out] at hln ⊢
        unfold boundE at hln ⊢
        rw [if_pos hq] at hln ⊢
        split
        · rfl
        · rename_i h1
          rw [if_neg h1] at hln
          have h0 : T.length = 0 := by omega
          rw [h0]
          simp [news] : Z = X ++ news T s (atI f) T.length)
      have HEZ : Hid (envB Z = true) := (by
        rw [HZE.out]
        unfold boundE
        rw [if_pos hq]
        split
        · rename_i h1
          exact h1
        · exact hq : envB Z = true)
      have bl : ((Z.length : Int) == (X.length : Int) + (T.length : Int)) = true := beq_iff_eq.mpr hln
      have hV0 : EvW w1 gz Z g X g2 T w11 := ⟨hrz4, hr4, hT4, hB11⟩
      clear hln HZE hr4 hT4 hrz4 hB11
      go_wp2
      go_loopw [11] (fun v11 wr => ∃ k : Nat, k ≤ T.length ∧ v11 = .int .i64 (k : Int) ∧ EvW w1 gz Z g X g2 T wr) (fun v11 _ => T.length - (intOf v11).toNat)
      case atStart => exact ⟨0, Nat.zero_le _, rfl, hV0⟩
      case round =>
        obtain ⟨k, hk, rfl, hV⟩ := hrel
        clear hV0
        by_cases hlt : k < T.length
        · have hNe : Nonempty (InW (EvW w1 gz Z g X g2 T)) := ⟨⟨wr, hV⟩⟩
          have hrow : ∀ y : InW (EvW w1 gz Z g X g2 T), y.x.cell? ⟨g2, k, none⟩ = some (.string T[k]) := fun y => (y.h.2.2.1.2 k hlt).1
          have HH : Hid (∀ (W : World), RowT W g2 T → Calls Try.prog 47 #[.slice (if c2 = k + 1 then some ⟨g2, 0, none⟩ else some ⟨g2, k + 1, none⟩) (T.length - (k + 1)) (c2 - (k + 1)), .string T[k]] W fun e w' => e = .returned (.bool (amB (T.drop (k + 1)) T[k])) ∧ Below W.heap.size W w') := fun W hA => by
            have := has_any (if c2 = k + 1 then some ⟨g2, 0, none⟩ else some ⟨g2, k + 1, none⟩) (c2 - (k + 1)) (T.drop (k + 1)) T[k] W (fun i hi => by
              have hi' : k + 1 + i < T.length := by simp at hi; omega
              rw [if_neg (by omega)]
              refine ⟨g2, k + 1, rfl, hA.1, ?_, ?_⟩
              · rw [List.getElem_drop]
                exact (hA.2 (k + 1 + i) hi').1
              · rw [List.getElem_drop]
                exact hm _ _) (by simp; omega)
            rw [List.length_drop] at this
            exact this
          have HLN : Hid (amB (T.drop (k + 1)) T[k] = false → lookE Z T[k] s = atI f k) := fun hh => by
            unfold lookE
            rw [if_pos HEZ.out, HW.out]
            exact look_new X T s (atI f) k hlt hh
          have HLO : Hid (lookE Z T[k] (!s) = lookE X T[k] (!s)) := (by
            unfold lookE
            rw [if_pos HEZ.out, if_pos hq, HW.out]
            exact look_other X T s (atI f) T.length T[k] : lookE Z T[k] (!s) = lookE X T[k] (!s))
          have HI : Hid (∀ (b : Bool) (W : World), RowF W gz (Z.flatMap bC) → Calls Try.prog 43 #[.slice (some ⟨gz, 0, none⟩) Z.length cz, .string T[k], .bool b] W fun e w' => e = .returned (.int .i64 (lookE Z T[k] b)) ∧ Below W.heap.size W w') := fun b W hr => lookedI_any _ _ Z T[k] b W (rowB hr) HZ.out (by omega)
          have HS : Hid (∀ (b : Bool) (W : World), RowF W g (X.flatMap bC) → Calls Try.prog 44 #[.slice (some ⟨g, 0, none⟩) X.length cp, .string T[k], .bool b] W fun e w' => e = .returned (.int .i64 (lookE X T[k] b)) ∧ Below W.heap.size W w') := fun b W hr => lookedS_any _ _ X T[k] b W (rowB hr) hokX (by omega)
          generalize hdk : amB (T.drop (k + 1)) T[k] = am at HH HLN
          clear hdk
          generalize T[k] = tk at hrow HH HLN HLO HI HS
          have j0 : (0 : Int) ≤ (k : Int) := by omega
          have j2 : (k : Int) < (T.length : Int) := by omega
          go_upto_region 15 with fail
          refine wp_region_in (S := EvW w1 gz Z g X g2 T) (by kernel_rfl) (by kernel_rfl) hV.drew ?_
          repeat (go_big_quiet_step (first | (go_at_call 47; rename_i yy; exact (HH.out _ yy.h.2.2.1).mono fun _ _ hh => ⟨hh.1, ⟨⟨_, yy.h.call hh.2⟩, rfl⟩⟩)))
          refine wpQuiet_nil ?_
          rintro _ ⟨⟨w3, hV3⟩, rfl⟩
          cases am
          · have hfk : atI f k = f + (k : Int) := wrap_in (by unfold I64; omega)
            have HI1 : Hid (∀ (W : World), RowF W gz (Z.flatMap bC) → Calls Try.prog 43 #[.slice (some ⟨gz, 0, none⟩) Z.length cz, .string tk, .bool s] W fun e w' => e = .returned (.int .i64 (f + (k : Int))) ∧ Below W.heap.size W w') := fun W hr => by
              have := HI.out s W hr
              rw [HLN.out rfl, hfk] at this
              exact this
            have HI2 : Hid (∀ (W : World), RowF W gz (Z.flatMap bC) → Calls Try.prog 43 #[.slice (some ⟨gz, 0, none⟩) Z.length cz, .string tk, .bool (!s)] W fun e w' => e = .returned (.int .i64 (lookE X tk (!s))) ∧ Below W.heap.size W w') := fun W hr => by
              have := HI.out (!s) W hr
              rw [HLO.out] at this
              exact this
            have HS2 := HS.out (!s)
            generalize lookE X tk (!s) = zz at HI2 HS2
            clear HLN HLO HI HS HH hfk
            go_upto_region 16 with fail
            refine wp_region_in (S := EvW w1 gz Z g X g2 T) (by kernel_rfl) (by kernel_rfl) hV3.drew ?_
            repeat (go_big_quiet_step (fail))
            go_big_quiet_step (first | (go_at_call 43; rename_i yy; exact (HI1.out _ yy.h.1).mono fun _ _ hh => ⟨hh.1, ⟨⟨_, yy.h.call hh.2⟩, rfl⟩⟩))
            repeat (go_big_quiet_step (fail))
            go_big_quiet_step (first | (go_at_call 43; rename_i yy; exact (HI2.out _ yy.h.1).mono fun _ _ hh => ⟨hh.1, ⟨⟨_, yy.h.call hh.2⟩, rfl⟩⟩))
            repeat (go_big_quiet_step (fail))
            go_big_quiet_step (first | (go_at_call 44; rename_i yy; exact (HS2 _ yy.h.2.1).mono fun _ _ hh => ⟨hh.1, ⟨⟨_, yy.h.call hh.2⟩, rfl⟩⟩))
            repeat (go_big_quiet_step (fail))
            refine wpQuiet_nil ?_
            rintro _ ⟨⟨w4, hV4⟩, rfl⟩
            clear hrow hNe HI1 HI2 HS2 hV3
            go_wp2
            exact ⟨⟨k + 1, by omega, by go_num, hV4⟩, by simp [intOf]; omega⟩
          · clear hrow hNe HH HLN HLO HI HS
            go_wp2
            exact ⟨⟨k + 1, by omega, by go_num, hV3⟩, by simp [intOf]; omega⟩
        · have HP : Hid (∀ W, RowF W gz (Z.flatMap bC) → RowA BdAt 3 W (some ⟨gz, 0, none⟩) X) := fun W hr i hi => by
            have hi2 : i < Z.length := by rw [HW.out, List.length_append]; omega
            obtain ⟨sb, off, e1, e2, e3⟩ := rowB hr i hi2
            refine ⟨sb, off, e1, e2, ?_⟩
            have : Z[i] = X[i] := by
              simp only [HW.out]
              exact List.getElem_append_left hi
            rw [this] at e3
            exact e3
          have hxz : X.length ≤ Z.length := by rw [HW.out, List.length_append]; omega
          have hez := envOkI_any (some ⟨gz, 0, none⟩) cz Z wr (rowB hV.1) HZ.out (by omega)
          rw [HEZ.out] at hez
          go_wp2_with fail
          refine hez.mono ?_
          rintro e w3 ⟨rfl, hb3⟩
          have hV3 := hV.call hb3
          have hxc : (X.length : Int) ≤ (cz : Int) := by omega
          clear hez hb3
          go_wp2_with fail
          refine (likeEnv_same _ _ _ _ X _ (HP.out _ hV3.1) (rowB hV3.2.1) (by omega)).mono ?_
          rintro e w4 ⟨rfl, hb4⟩
          have hB4 := bstep hV3.2.2.2 hb4
          clear hb4
          go_wp2
          go_ret
          exact ⟨rfl, hB4⟩
    · have HZX : Hid (Z = X) := (by
        rw [HZE.out] at hln ⊢
        unfold boundE at hln ⊢
        rw [if_pos hq] at hln ⊢
        split
        · rename_i h1
          rw [if_pos h1, List.length_append, news_length] at hln
          omega
        · rfl : Z = X)
      have bl : ((Z.length : Int) == (X.length : Int) + (T.length : Int)) = false := beq_eq_false_iff_ne.mpr hln
      have hlk : Calls Try.prog 41 #[.slice (some ⟨gz, 0, none⟩) Z.length cz, .slice (some ⟨g, 0, none⟩) X.length cp] w11 fun e w' => e = .returned (.bool true) ∧ Below w11.heap.size w11 w' := by
        rw [HZX.out] at hrz4 ⊢
        exact likeEnv_same _ _ _ _ X _ (rowB hrz4) (rowB hr4) (by omega)
      clear hln
      go_wp2_with fail
      refine hlk.mono ?_
      rintro e w12 ⟨rfl, hb12⟩
      have hB12 := bstep hB11 hb12
      clear hlk hb12
      go_wp2
      go_ret
      exact ⟨rfl, hB12⟩

end Go.Proofs.Ytcmjmoikalfdkaa
