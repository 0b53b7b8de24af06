/-
  The law of words, walked: whatever bytes it draws from, it answers true, and turns nothing that was there.
-/
import Derived.Test.YtknepeleepbefaaWrdI
import Derived.Laws.AppendOwnNone
import Derived.Laws.OwnMore
import Derived.Deep.Slices
namespace Go.Proofs.Ytknepeleepbefaa
open Go.RowKit

set_option maxHeartbeats 1000000 in
theorem likeTexts_same (a a' : Option Addr) (cap cap' : Nat) (L : List ByteArray) (w : World) (h : ArgT w a L) (h' : ArgT w a' L) (hL : L.length ≤ 1048576) :
    Calls Try.prog 11 #[.slice a L.length cap, .slice a' L.length cap'] w fun e w' => e = .returned (.bool true) ∧ Below w.heap.size w w' := by
  go_enter Try.func11, Try.ntmps11
  go_wp2
  go_loopw [5] (fun i wr => ∃ k : Nat, k ≤ L.length ∧ i = .int .i64 (k : Int) ∧ Below w.heap.size w wr) (fun i _ => L.length - (intOf i).toNat)
  case atStart => exact ⟨0, Nat.zero_le _, rfl, Below.refl _ _⟩
  case round =>
    obtain ⟨k, hk, rfl, hB⟩ := hrel
    by_cases hlt : k < L.length
    · obtain ⟨sb, off, rfl, hs, hc, _⟩ := h k hlt
      obtain ⟨sb', off', rfl, hs', hc', _⟩ := h' k hlt
      have c1 := (hB.cell (p := ⟨sb, off + k, none⟩) hs).trans hc
      have c2 := (hB.cell (p := ⟨sb', off' + k, none⟩) hs').trans hc'
      clear hc hc'
      generalize L[k] = t at c1 c2
      go_wp2
      go_quiet (fail)
      go_wp2
      go_roundw
      case rel => exact ⟨k + 1, by omega, by go_num, ⟨hB.os, hB.tape, hB.output, hB.size, hB.block⟩⟩
      case measure => simp [intOf]; omega
    · go_wp2
      go_ret
      exact ⟨rfl, hB⟩

/-- The bytes that came in, as a list. -/
theorem code_list {B : Nat} {x : Addr} {len : Nat} {w : World} (h : Code B (some x) len w) : ∃ xs : List Value, xs.length = len ∧ (∀ j u, xs[j]? = some u → w.cell? (x.add j) = some u) ∧ (∀ u ∈ xs, ∃ n : Int, u = .int .u8 n ∧ 0 ≤ n ∧ n ≤ 255) := by
  have each : ∀ j, j < len → ∃ n : Int, w.cell? (x.add j) = some (.int .u8 n) ∧ 0 ≤ n ∧ n ≤ 255 := fun j hj => by
    obtain ⟨sb, off, n, ha, _, hc, h0, h1⟩ := h j hj
    injection ha with ha
    subst ha
    have hplain : (⟨sb, off, none⟩ : Addr).add j = ⟨sb, off + j, none⟩ := by unfold Addr.add; split <;> simp_all
    exact ⟨n, by rw [hplain]; exact hc, h0, h1⟩
  obtain ⟨f, hf⟩ := Deep.choose_lt each
  refine ⟨(List.range len).map fun j => .int .u8 (f j), by simp, fun j u hj => ?_, fun u hu => ?_⟩
  · obtain ⟨hl, rfl⟩ := List.getElem?_eq_some_iff.1 hj
    have hl' : j < len := by simpa using hl
    simpa using (hf j hl').1
  · obtain ⟨j, hj, rfl⟩ := List.mem_map.1 hu
    exact ⟨f j, rfl, (hf j (List.mem_range.1 hj)).2⟩
/-- Bytes of the call's own, as a cursor takes them. -/
theorem own_code {w : World} {B n : Nat} {v : Value} {xs : List Value} (h : w.ownsRow B 5 1 v n xs) (hx : ∀ u ∈ xs, ∃ n : Int, u = .int .u8 n ∧ 0 ≤ n ∧ n ≤ 255) : ∃ a cap, v = .slice a n cap ∧ Code w.heap.size a n w := by
  have hl : xs.length = n := by simpa using h.1
  rcases id h.2 with ⟨rfl, rfl⟩ | ⟨g, cap, cur, rfl, _, hg, _, _, _, _⟩
  · exact ⟨none, 0, rfl, fun j hj => absurd hj (Nat.not_lt_zero _)⟩
  · refine ⟨_, cap, rfl, fun j hj => ?_⟩
    have hj' : j < xs.length := by omega
    obtain ⟨z, hz, h0, h1⟩ := hx xs[j] (List.getElem_mem hj')
    have hcell := World.ownsRow.cells (w := w) h (g := g) rfl (j := j) (u := xs[j]) (by simp [hj'])
    have hplain : (⟨g, 0, none⟩ : Addr).add j = ⟨g, 0 + j, none⟩ := by unfold Addr.add; split <;> simp_all
    rw [hplain, hz] at hcell
    exact ⟨g, 0, z, rfl, (Array.getElem?_eq_some_iff.1 hg).1, hcell, h0, h1⟩
theorem infoU8 : (Try.prog.info? 5).map (fun i => (i.zero, i.size, i.bytes)) = some (some (.int .u8 0), 1, 1) := by kernel_rfl

theorem four_room (L : List ByteArray) (h : ∀ x ∈ L, x ∈ fourL) : ∀ k, k ≤ L.length → roomN L k ≤ 2 * k
  | 0, _ => by simp [roomN]
  | k + 1, hk => by
    have ih := four_room L h k (by omega)
    have := four_size (h _ (List.getElem_mem (by omega : k < L.length)))
    rw [room_succ (by omega)]
    omega
theorem seven_own (w : World) : (w.alloc (.cells #[.int .u8 7] 5)).ownsRow w.heap.size 5 1 (.slice (some ⟨w.heap.size, 0, none⟩) 1 1) 1 [.int .u8 7] :=
  World.ownsRow_lit w #[.int .u8 7] 1 (Nat.le_refl _) (by decide) rfl
theorem seven_ok : ∀ u ∈ [Value.int .u8 7], ∃ n : Int, u = .int .u8 n ∧ 0 ≤ n ∧ n ≤ 255 := fun u hu => by
  simp at hu
  exact ⟨7, hu, by decide, by decide⟩

set_option maxRecDepth 100000 in
set_option maxHeartbeats 2000000 in
theorem lawWds (a : Option Addr) (len cap : Nat) (w : World) (hcode : Code w.heap.size a len w ∧ (a = none → len = 0 ∧ cap = 0)) (_hml : len ≤ maxLen) :
    Calls Try.prog 3 #[.slice a len cap] w fun e w' => e = .returned (.bool true) ∧ Below w.heap.size w w' := by
  obtain ⟨hcode, hnil⟩ := hcode
  go_enter Try.func3, Try.ntmps3
  go_wp2_with fail
  refine (big_any a len cap _).mono ?_
  rintro e w1 ⟨rfl, hw1⟩
  subst hw1
  by_cases hbig : (4096 : Int) < len
  · go_wp2
    go_ret
    exact ⟨rfl, Below.refl _ _⟩
  have hlen : len ≤ 4096 := by omega
  go_wp2_with fail
  refine (drawWords_any a len cap _ hcode (by omega)).mono ?_
  rintro e w2 ⟨v, f, s, Y, rfl, ho, hY, hYl, hf0, hf1, hb2⟩
  have hm : ∀ i (h : i < Y.length), Y[i].size ≤ maxLen := fun i hi => by
    have := four_size (hY _ (List.getElem_mem hi))
    unfold maxLen
    omega
  obtain ⟨a1, c1, rfl, hA, hc1⟩ := ho.arg hm
  have hX := tri0 w2 (.slice a1 Y.length c1) (.int .i64 f) (.int .i64 s) 26
  have hXB : Below w2.heap.size w2 (w2.alloc (.cells #[.slice a1 Y.length c1, .int .i64 f, .int .i64 s] 26)) := balloc (Below.refl _ _) _
  have hA2 := hA.call hXB
  have hB2 := bstep hb2 hXB
  clear hXB hb2 ho
  obtain ⟨i0, hi, hz0, hz1, hz2⟩ := info_parts infoU8
  obtain ⟨W, hW⟩ : ∃ W, W = w2.alloc (.cells #[.slice a1 Y.length c1, .int .i64 f, .int .i64 s] 26) := ⟨_, rfl⟩
  have hWz : W.heap.size = w2.heap.size + 1 := by rw [hW]; simp
  rw [← hW] at hX hA2 hB2
  have hO := seven_own W
  have hOB : Below W.heap.size W (W.alloc (.cells #[.int .u8 7] 5)) := balloc (Below.refl _ _) _
  cases a with
  | none =>
    obtain ⟨rfl, rfl⟩ := hnil rfl
    obtain ⟨a3, c3, ea, hC3⟩ := own_code hO seven_ok
    injection ea with e1 _ e3
    subst e1 e3
    have HC3 : Hid (Code (W.alloc (.cells #[.int .u8 7] 5)).heap.size (some ⟨W.heap.size, 0, none⟩) 1 (W.alloc (.cells #[.int .u8 7] 5))) := hC3
    clear hC3
    go_wp2_with fail
    rw [← hW, ← hWz]
    refine (drawEnded_any _ _ _ _ HC3.out (by decide)).mono ?_
    rintro e w4 ⟨v4, f4, s4, Z, rfl, ho4, hZ, hZl, hg0, hg1, hb4⟩
    have hX4 := (hX.call hOB).call hb4
    have hA4 := (hA2.call hOB).call hb4
    have hB4 := bstep (bstep hB2 hOB) hb4
    clear hX hA2 hB2 hO hOB HC3 hW hWz hb4
    have hn : ∀ i (h : i < Z.length), Z[i].size ≤ maxLen := fun i hi => by
      have := four_size (hZ _ (List.getElem_mem hi))
      unfold maxLen
      omega
    obtain ⟨a6, c6, rfl, hZA, hc6⟩ := ho4.arg hn
    have hV := tri0 w4 (.slice a6 Z.length c6) (.int .i64 f4) (.int .i64 s4) 26
    have hVB : Below w4.heap.size w4 (w4.alloc (.cells #[.slice a6 Z.length c6, .int .i64 f4, .int .i64 s4] 26)) := balloc (Below.refl _ _) _
    have hX5 := hX4.call hVB
    have hA5 := hA4.call hVB
    have hZ5 := hZA.call hVB
    have hB5 := bstep hB4 hVB
    have hYl2 : Y.length ≤ 1048576 := by omega
    have hZl2 : Z.length ≤ 1048576 := by omega
    have hRY : ∀ k, k ≤ Y.length → roomN Y k ≤ 3000000 := fun k hk => by have := four_room Y hY k hk; omega
    have hRZ : ∀ k, k ≤ Z.length → roomN Z k ≤ 3000000 := fun k hk => by have := four_room Z hZ k hk; omega
    have ⟨x0, x1, x2, _⟩ := hX5
    clear hX4 hA4 hZA hB4 hVB ho4
    go_wp2_with fail
    refine (wordsI_any a1 c1 Y f s _ hA5 hc1 hYl2 hRY).mono ?_
    rintro e w6 ⟨rfl, hb6⟩
    have hX6 := hX5.call hb6
    have hV6 := hV.call hb6
    have hA6 := hA5.call hb6
    have hZ6 := hZ5.call hb6
    have hB6 := bstep hB5 hb6
    have ⟨v0, v1, v2, _⟩ := hV6
    clear hX5 hA5 hZ5 hB5 hb6 hV x0 x1 x2
    go_wp2_with fail
    refine (wordsI_any a6 c6 Z f4 s4 _ hZ6 hc6 hZl2 hRZ).mono ?_
    rintro e w7 ⟨rfl, hb7⟩
    have hX7 := hX6.call hb7
    have hV7 := hV6.call hb7
    have hA7 := hA6.call hb7
    have hZ7 := hZ6.call hb7
    have hB7 := bstep hB6 hb7
    have ⟨x0, x1, x2, _⟩ := hX7
    clear hX6 hV6 hA6 hZ6 hB6 hb7 v0 v1 v2
    go_wp2_with fail
    refine (wordsS_any a1 c1 Y f s _ hA7 hYl2 hRY).mono ?_
    rintro e w8 ⟨rfl, hb8⟩
    have hX8 := hX7.call hb8
    have hV8 := hV7.call hb8
    have hA8 := hA7.call hb8
    have hZ8 := hZ7.call hb8
    have hB8 := bstep hB7 hb8
    have ⟨v0, v1, v2, _⟩ := hV8
    clear hX7 hV7 hA7 hZ7 hB7 hb8 x0 x1 x2
    have HL : Hid (∀ W, ArgT W a1 Y → ArgT W a6 Z → Y = Z → Calls Try.prog 11 #[.slice a1 Y.length c1, .slice a6 Z.length c6] W fun e w' => e = .returned (.bool true) ∧ Below W.heap.size W w') := fun W h1 h2 e => by
      subst e
      exact likeTexts_same _ _ _ _ Y W h1 h2 hYl2
    have HJ : Hid (0 ≤ f ∧ f ≤ 5 → 0 ≤ f4 ∧ f4 ≤ 5 → wordT Y f = wordT Z f4 → Y = Z ∧ f = f4) := fun h1 h2 => word_inj h1 h2 (fun x hx => four_plain (hY x hx)) (fun x hx => four_plain (hZ x hx))
    have HE4 : Hid (¬ (0 ≤ f4 ∧ f4 ≤ 5) → wordT Z f4 = ⟨#[]⟩) := word_none
    have HS8 := wordsS_any a6 c6 Z f4 s4 w8 hZ8 hZl2 hRZ
    by_cases hf : 0 ≤ f ∧ f ≤ 5
    · have hne := word_empty Y hf
      have hf6 : ¬ f < 0 := by omega
      have hf7 : ¬ 5 < f := by omega
      generalize wordT Y f = X at HJ hne
      generalize wordT Z f4 = X2 at HJ HE4 HS8
      clear hY hZ hm hn hRY hRZ
      go_wp2_with fail
      refine HS8.mono ?_
      rintro e w9 ⟨rfl, hb9⟩
      have hX9 := hX8.call hb9
      have hV9 := hV8.call hb9
      have hA9 := hA8.call hb9
      have hZ9 := hZ8.call hb9
      have hB9 := bstep hB8 hb9
      have ⟨x0, x1, x2, _⟩ := hX9
      have ⟨y0, y1, y2, _⟩ := hV9
      clear hX8 hV8 hA8 hZ8 hB8 hb9 v0 v1 v2 HS8
      by_cases hxy : X = X2
      · subst hxy
        have hf4 : 0 ≤ f4 ∧ f4 ≤ 5 := by
          by_cases q : 0 ≤ f4 ∧ f4 ≤ 5
          · exact q
          · rw [HE4.out q] at hne
            rw [ByteArray.toList_eq] at hne
            exact absurd hne (by decide)
        obtain ⟨hYZ, hff⟩ := HJ.out hf hf4 rfl
        have HC := HL.out w9 hA9 hZ9 hYZ
        have HF : Hid (f = f4) := hff
        have hfe : (f == f4) = true := by rw [hff]; simp
        have hfd : decide (f = f4) = true := by rw [hff]; simp
        clear HL HJ HE4 hYZ hff
        go_wp2_with fail
        refine HC.mono ?_
        rintro e w10 ⟨rfl, hb10⟩
        have hB10 := bstep hB9 hb10
        have ⟨p0, p1, p2, _⟩ := hX9.call hb10
        have ⟨q0, q1, q2, _⟩ := hV9.call hb10
        go_wp2
        go_ret
        exact ⟨rfl, hB10⟩
      · have hb := txt_ne hxy
        clear hxy HJ
        go_wp2
        go_ret
        exact ⟨rfl, hB9⟩
    · have HE : Hid (wordT Y f = ⟨#[]⟩) := word_none hf
      generalize wordT Z f4 = X2 at HJ HE4 HS8
      clear hY hZ hm hn hRY hRZ HJ HE4 HL
      rw [HE.out]
      go_wp2_with fail
      refine HS8.mono ?_
      rintro e w9 ⟨rfl, hb9⟩
      have hX9 := hX8.call hb9
      have hB9 := bstep hB8 hb9
      have ⟨x0, x1, x2, _⟩ := hX9
      by_cases h0 : f < 0
      · go_wp2
        all_goals go_ret
        all_goals exact ⟨rfl, hB9⟩
      · have h5 : 5 < f := by omega
        go_wp2
        all_goals go_ret
        all_goals exact ⟨rfl, hB9⟩
  | some x =>
    obtain ⟨xs, hxl, hxc, hxo⟩ := code_list hcode
    have hBW := bstep hB2 hOB
    have hin : ∀ j u, xs[j]? = some u → (W.alloc (.cells #[.int .u8 7] 5)).cell? (x.add j) = some u := fun j u hj => by
      have hjl : j < len := by rw [← hxl]; exact (List.getElem?_eq_some_iff.1 hj).1
      obtain ⟨sb, off, n, ha, hs, _⟩ := hcode j hjl
      injection ha with ha
      have hbl : (x.add j).block < w1.heap.size := by
        rw [ha]
        have hplain : (⟨sb, off, none⟩ : Addr).add j = ⟨sb, off + j, none⟩ := by unfold Addr.add; split <;> simp_all
        rw [hplain]
        exact hs
      exact (hBW.cell (p := x.add j) hbl).trans (hxc j u hj)
    have h1c : ∀ u ∈ xs, u.oneCell' = true := fun u hu => by
      obtain ⟨n, rfl, _⟩ := hxo u hu
      rfl
    have hc3 : 1 + len ≤ maxLen := by unfold maxLen; omega
    have hc4 : (1 + len) * 1 ≤ 140737488355328 := by omega
    have hxl1 : xs.length = len * 1 := by omega
    have hbz : w2.heap.size + 1 ≤ (W.alloc (.cells #[.int .u8 7] 5)).heap.size := by simp; omega
    rw [hWz] at hO
    rw [hW] at hO hin hbz
    go_wp2_with (at_builtin; refine wpList_append_own _ rfl _ _ 22 rfl _ 5 i0 (.int .u8 0) 1 1 Try.underlying22 hi hz0 hz1 hz2 rfl (by decide) _ _ _ rfl hO x len cap xs rfl hxl1 hin h1c hc3 hc4 hbz ?_)
    intro v3 w3 hown3 hgrow3 _
    have hB3 : Below (w2.heap.size + 1) W w3 := by
      have h0 : Below (w2.heap.size + 1) W (W.alloc (.cells #[.int .u8 7] 5)) := Below.alloc (Below.refl _ _) (by omega) _
      rw [hW] at h0 ⊢
      exact h0.grown hgrow3 hbz (fun k hk => (World.ownsRow.lt hO k hk).1)
    rw [← hWz] at hB3
    obtain ⟨a3, c3, rfl, hC3⟩ := own_code hown3 (fun u hu => by
      rcases List.mem_cons.1 hu with rfl | hu
      · exact seven_ok _ (by simp)
      · exact hxo u hu)
    have hn3 : 1 + len ≤ 5000 := by omega
    have hX3 := hX.call hB3
    have hA3 := hA2.call hB3
    have hB3' := bstep hB2 hB3
    clear hown3 hgrow3 hO hin hbz h1c hxo hxc hX hA2 hB2 hOB hBW hB3
    go_wp2_with fail
    refine (drawEnded_any _ _ _ _ hC3 hn3).mono ?_
    rintro e w4 ⟨v4, f4, s4, Z, rfl, ho4, hZ, hZl, hg0, hg1, hb4⟩
    have hX4 := hX3.call hb4
    have hA4 := hA3.call hb4
    have hB4 := bstep hB3' hb4
    clear hX3 hA3 hB3' hC3 hW hWz hb4 hcode
    have hn : ∀ i (h : i < Z.length), Z[i].size ≤ maxLen := fun i hi => by
      have := four_size (hZ _ (List.getElem_mem hi))
      unfold maxLen
      omega
    obtain ⟨a6, c6, rfl, hZA, hc6⟩ := ho4.arg hn
    have hV := tri0 w4 (.slice a6 Z.length c6) (.int .i64 f4) (.int .i64 s4) 26
    have hVB : Below w4.heap.size w4 (w4.alloc (.cells #[.slice a6 Z.length c6, .int .i64 f4, .int .i64 s4] 26)) := balloc (Below.refl _ _) _
    have hX5 := hX4.call hVB
    have hA5 := hA4.call hVB
    have hZ5 := hZA.call hVB
    have hB5 := bstep hB4 hVB
    have hYl2 : Y.length ≤ 1048576 := by omega
    have hZl2 : Z.length ≤ 1048576 := by omega
    have hRY : ∀ k, k ≤ Y.length → roomN Y k ≤ 3000000 := fun k hk => by have := four_room Y hY k hk; omega
    have hRZ : ∀ k, k ≤ Z.length → roomN Z k ≤ 3000000 := fun k hk => by have := four_room Z hZ k hk; omega
    have ⟨x0, x1, x2, _⟩ := hX5
    clear hX4 hA4 hZA hB4 hVB ho4
    go_wp2_with fail
    refine (wordsI_any a1 c1 Y f s _ hA5 hc1 hYl2 hRY).mono ?_
    rintro e w6 ⟨rfl, hb6⟩
    have hX6 := hX5.call hb6
    have hV6 := hV.call hb6
    have hA6 := hA5.call hb6
    have hZ6 := hZ5.call hb6
    have hB6 := bstep hB5 hb6
    have ⟨v0, v1, v2, _⟩ := hV6
    clear hX5 hA5 hZ5 hB5 hb6 hV x0 x1 x2
    go_wp2_with fail
    refine (wordsI_any a6 c6 Z f4 s4 _ hZ6 hc6 hZl2 hRZ).mono ?_
    rintro e w7 ⟨rfl, hb7⟩
    have hX7 := hX6.call hb7
    have hV7 := hV6.call hb7
    have hA7 := hA6.call hb7
    have hZ7 := hZ6.call hb7
    have hB7 := bstep hB6 hb7
    have ⟨x0, x1, x2, _⟩ := hX7
    clear hX6 hV6 hA6 hZ6 hB6 hb7 v0 v1 v2
    go_wp2_with fail
    refine (wordsS_any a1 c1 Y f s _ hA7 hYl2 hRY).mono ?_
    rintro e w8 ⟨rfl, hb8⟩
    have hX8 := hX7.call hb8
    have hV8 := hV7.call hb8
    have hA8 := hA7.call hb8
    have hZ8 := hZ7.call hb8
    have hB8 := bstep hB7 hb8
    have ⟨v0, v1, v2, _⟩ := hV8
    clear hX7 hV7 hA7 hZ7 hB7 hb8 x0 x1 x2
    have HL : Hid (∀ W, ArgT W a1 Y → ArgT W a6 Z → Y = Z → Calls Try.prog 11 #[.slice a1 Y.length c1, .slice a6 Z.length c6] W fun e w' => e = .returned (.bool true) ∧ Below W.heap.size W w') := fun W h1 h2 e => by
      subst e
      exact likeTexts_same _ _ _ _ Y W h1 h2 hYl2
    have HJ : Hid (0 ≤ f ∧ f ≤ 5 → 0 ≤ f4 ∧ f4 ≤ 5 → wordT Y f = wordT Z f4 → Y = Z ∧ f = f4) := fun h1 h2 => word_inj h1 h2 (fun x hx => four_plain (hY x hx)) (fun x hx => four_plain (hZ x hx))
    have HE4 : Hid (¬ (0 ≤ f4 ∧ f4 ≤ 5) → wordT Z f4 = ⟨#[]⟩) := word_none
    have HS8 := wordsS_any a6 c6 Z f4 s4 w8 hZ8 hZl2 hRZ
    by_cases hf : 0 ≤ f ∧ f ≤ 5
    · have hne := word_empty Y hf
      have hf6 : ¬ f < 0 := by omega
      have hf7 : ¬ 5 < f := by omega
      generalize wordT Y f = X at HJ hne
      generalize wordT Z f4 = X2 at HJ HE4 HS8
      clear hY hZ hm hn hRY hRZ
      go_wp2_with fail
      refine HS8.mono ?_
      rintro e w9 ⟨rfl, hb9⟩
      have hX9 := hX8.call hb9
      have hV9 := hV8.call hb9
      have hA9 := hA8.call hb9
      have hZ9 := hZ8.call hb9
      have hB9 := bstep hB8 hb9
      have ⟨x0, x1, x2, _⟩ := hX9
      have ⟨y0, y1, y2, _⟩ := hV9
      clear hX8 hV8 hA8 hZ8 hB8 hb9 v0 v1 v2 HS8
      by_cases hxy : X = X2
      · subst hxy
        have hf4 : 0 ≤ f4 ∧ f4 ≤ 5 := by
          by_cases q : 0 ≤ f4 ∧ f4 ≤ 5
          · exact q
          · rw [HE4.out q] at hne
            rw [ByteArray.toList_eq] at hne
            exact absurd hne (by decide)
        obtain ⟨hYZ, hff⟩ := HJ.out hf hf4 rfl
        have HC := HL.out w9 hA9 hZ9 hYZ
        have HF : Hid (f = f4) := hff
        have hfe : (f == f4) = true := by rw [hff]; simp
        have hfd : decide (f = f4) = true := by rw [hff]; simp
        clear HL HJ HE4 hYZ hff
        go_wp2_with fail
        refine HC.mono ?_
        rintro e w10 ⟨rfl, hb10⟩
        have hB10 := bstep hB9 hb10
        have ⟨p0, p1, p2, _⟩ := hX9.call hb10
        have ⟨q0, q1, q2, _⟩ := hV9.call hb10
        go_wp2
        go_ret
        exact ⟨rfl, hB10⟩
      · have hb := txt_ne hxy
        clear hxy HJ
        go_wp2
        go_ret
        exact ⟨rfl, hB9⟩
    · have HE : Hid (wordT Y f = ⟨#[]⟩) := word_none hf
      generalize wordT Z f4 = X2 at HJ HE4 HS8
      clear hY hZ hm hn hRY hRZ HJ HE4 HL
      rw [HE.out]
      go_wp2_with fail
      refine HS8.mono ?_
      rintro e w9 ⟨rfl, hb9⟩
      have hX9 := hX8.call hb9
      have hB9 := bstep hB8 hb9
      have ⟨x0, x1, x2, _⟩ := hX9
      by_cases h0 : f < 0
      · go_wp2
        all_goals go_ret
        all_goals exact ⟨rfl, hB9⟩
      · have h5 : 5 < f := by omega
        go_wp2
        all_goals go_ret
        all_goals exact ⟨rfl, hB9⟩

end Go.Proofs.Ytknepeleepbefaa
