/-
  Chapter 7, the program: NamesIn.
-/
import Derived.Test.YtefgmhlpcfmhlaaDoorHeapP
namespace Go.Proofs.YtefgmhlpcfmhlaaDoor
open Go.RowKit

theorem hpS_new (w : World) : HpS w.heap.size (w.heap.size + 1) w.heap.size 0 [] ((w.alloc (.cells #[] 9)).alloc (.cells #[.slice (some ⟨w.heap.size, 0, none⟩) 0 0] 43)) := by
  refine ⟨?_, ?_, by omega⟩
  · have := Boxed.new (w.alloc (.cells #[] 9)) 43 (.slice (some ⟨w.heap.size, 0, none⟩) 0 0)
    rw [World.size_alloc] at this
    exact this
  · exact World.ownsRow.alloc (World.ownsRow_made w #[] 0 (Nat.le_refl _) (Nat.zero_le _) rfl) _
theorem filt_iff {L : List ByteArray} {k : Nat} (h : k < L.length) (hq : nameB L[k] = true) (t : ByteArray) : t ∈ (L.take (k + 1)).filter nameB ↔ t ∈ (L.take k).filter nameB ∨ t = L[k] := by
  rw [filt_take h, if_pos hq, List.mem_append, List.mem_singleton]
theorem filt_no {L : List ByteArray} {k : Nat} (h : k < L.length) (hq : nameB L[k] = false) : (L.take (k + 1)).filter nameB = (L.take k).filter nameB := by
  rw [filt_take h, hq]
  simp

set_option maxHeartbeats 4000000 in
theorem waitingIn_any (a : Option Addr) (cap : Nat) (L : List ByteArray) (w : World) (h : ArgT w a L) (hL : L.length ≤ 1048576) :
    Calls Tryd.prog 29 #[.slice a L.length cap] w fun e w' => ∃ B g cp H, e = .returned (.pointer (some ⟨B, 0, none⟩)) ∧ HpS w.heap.size B g cp H w' ∧ Hp H H.length ∧ (∀ t, t ∈ H ↔ t ∈ L.filter nameB) ∧ H.length ≤ L.length ∧ Below w.heap.size w w' := by
  have hS0 := hpS_new w
  have hB0 : Below w.heap.size w ((w.alloc (.cells #[] 9)).alloc (.cells #[.slice (some ⟨w.heap.size, 0, none⟩) 0 0] 43)) := balloc (balloc (Below.refl _ _) _) _
  go_enter Tryd.func29, Tryd.ntmps29
  go_wp2
  go_loopw [10] (fun v10 wr => ∃ (k g cp : Nat) (H : List ByteArray), v10 = .int .i64 (k : Int) ∧ k ≤ L.length ∧ HpS w.heap.size (w.heap.size + 1) g cp H wr ∧ Hid (Hp H H.length) ∧ Hid (∀ t, t ∈ H ↔ t ∈ (L.take k).filter nameB) ∧ H.length ≤ k ∧ Below w.heap.size w wr) (fun v10 _ => L.length - (intOf v10).toNat)
  case atStart => exact ⟨0, _, _, [], rfl, Nat.zero_le _, hS0, fun c c0 c1 => absurd c1 (Nat.not_lt_zero _), fun t => by simp, Nat.le_refl _, hB0⟩
  case round =>
    obtain ⟨k, g, cp, H, rfl, hk, hS, HH, HM, hlen, hB⟩ := hrel
    clear hS0 hB0
    have hsz := hB.size
    by_cases hlt : k < L.length
    · obtain ⟨sb, off, rfl, hs, hc, hmx⟩ := h k hlt
      have hc' := (hB.cell (p := ⟨sb, off + k, none⟩) hs).trans hc
      cases hq : nameB L[k]
      · have HN := filt_no hlt hq
        rw [← HN] at HM
        have HQ : Hid (nameB L[k] = false) := hq
        clear hq hc HN
        generalize L[k] = t at hc' hmx HQ
        go_wp2_with fail
        refine (nameOkI_any t _ hmx).mono ?_
        rintro e w2 ⟨rfl, rfl⟩
        rw [HQ.out]
        go_wp2
        go_roundw
        case rel => exact ⟨k + 1, g, cp, H, by go_num, by omega, hS, HH.out, HM.out, by omega, hB⟩
        case measure => simp [intOf]; omega
      · have HN : Hid (∀ t, t ∈ (L.take (k + 1)).filter nameB ↔ t ∈ (L.take k).filter nameB ∨ t = L[k]) := filt_iff hlt hq
        have HQ : Hid (nameB L[k] = true) := hq
        clear hq hc
        generalize L[k] = t at hc' hmx HQ HN
        go_wp2_with fail
        refine (nameOkI_any t _ hmx).mono ?_
        rintro e w2 ⟨rfl, rfl⟩
        rw [HQ.out]
        go_wp2_with fail
        refine (push_any w.heap.size (w.heap.size + 1) g cp H t _ hS HH.out (by omega) hsz).mono ?_
        rintro e w3 ⟨rfl, g', cp', K, hK1, hK2, hK3, hK4, hK5⟩
        have HM2 : Hid (∀ u, u ∈ K ↔ u ∈ (L.take (k + 1)).filter nameB) := fun u => by rw [hK3, HN.out, HM.out]
        have hB3 : Below w.heap.size w w3 := hB.trans (hK5.below (fun q hq => by
          rcases hq with e | e
          · omega
          · rw [e]; exact hS.lt.1) hsz)
        have hKl : K.length ≤ k + 1 := by omega
        have HK2 : Hid (Hp K K.length) := hK2
        clear hK1 hK2 hK3 hK5
        go_wp2
        go_roundw
        case rel => exact ⟨k + 1, g', cp', K, by go_num, by omega, hK4, HK2.out, HM2.out, hKl, hB3⟩
        case measure => simp [intOf]; omega
    · have e1 : k = L.length := by omega
      subst e1
      rw [List.take_length] at HM
      go_wp2
      go_ret
      exact ⟨_, g, cp, H, rfl, hS, HH.out, HM.out, hlen, hB⟩

/-- The last one told. -/
theorem tel_nil (x : ByteArray) : tel [] x = [x] := by simp [tel]
theorem tel_last (Y : List ByteArray) (z x : ByteArray) : tel (Y ++ [z]) x = if z = x then Y ++ [z] else Y ++ [z] ++ [x] := by
  unfold tel
  simp

theorem HpS.grown {n0 B g cp : Nat} {H : List ByteArray} {w w' : World} {row : Option Nat} (h : HpS n0 B g cp H w) (hg : w.grownBy w' row) (h1 : some B ≠ row) (h2 : some g ≠ row) : HpS n0 B g cp H w' :=
  ⟨h.box.kept hg h1, World.ownsRow.kept h.own hg (Or.inr h2), h.lo⟩
/-- How many wait. -/
def boxN (B : Nat) (w : World) : Nat := match w.cell? ⟨B, 0, none⟩ with | some (.slice _ n _) => n | _ => 0
theorem HpS.boxN {n0 B g cp : Nat} {H : List ByteArray} {w : World} (h : HpS n0 B g cp H w) : boxN B w = H.length := by
  unfold YtefgmhlpcfmhlaaDoor.boxN
  rw [h.box.cell]

set_option maxHeartbeats 4000000 in
theorem namesInI_any (a : Option Addr) (cap : Nat) (L : List ByteArray) (w : World) (h : ArgT w a L) (hL : L.length ≤ 1048576) :
    Calls Tryd.prog 19 #[.slice a L.length cap] w fun e w' => ∃ g n cp, e = .returned (.slice (some ⟨g, 0, none⟩) n cp) ∧ n = (nmsE L).length ∧ OwnG w' w.heap.size g n cp (nmsE L) ∧ Below w.heap.size w w' := by
  obtain ⟨i0, hi, hz0, hz1, hz2⟩ := info_parts Tryd.infoS
  have hB0 := balloc (Below.refl w.heap.size w) (.cells #[] 9)
  have hO0 : (w.alloc (.cells #[] 9)).ownsRow w.heap.size 9 1 (.slice (some ⟨w.heap.size, 0, none⟩) 0 0) 0 [] := World.ownsRow_made w #[] 0 (Nat.le_refl _) (Nat.zero_le _) rfl
  go_enter Tryd.func19, Tryd.ntmps19
  go_wp2_with fail
  refine (waitingIn_any a cap L _ (h.call hB0) hL).mono ?_
  rintro e w1 ⟨B, g, cp, H0, rfl, hS0, hH0, hM0, hl0, hb1⟩
  have hB1 := bstep hB0 hb1
  have hO1 := own_kept hO0 (fun k hk => hb1.block k (World.ownsRow.lt hO0 k hk).2)
  have HH0 : Hid (Hp H0 H0.length) := hH0
  have HM0 : Hid (∀ t, t ∈ H0 ↔ t ∈ L.filter nameB) := hM0
  have hBlo : w.heap.size < B := by have := hS0.lo; simp at this; omega
  have hglo : w.heap.size < g := by have := hS0.lt.1; simp at this; omega
  have hS0' : HpS (w.heap.size + 1) B g cp H0 w1 := by rw [World.size_alloc] at hS0; exact hS0
  clear hH0 hM0 hO0 hB0 hS0 hb1
  go_wp2
  go_loopw [3] (fun v3 wr => ∃ (X H : List ByteArray) (gx nx cx : Nat), v3 = .slice (some ⟨gx, 0, none⟩) nx cx ∧ Hid (nx = X.length) ∧ Hid (wr.ownsRow w.heap.size 9 1 (.slice (some ⟨gx, 0, none⟩) nx cx) nx (X.map Value.string)) ∧ gx ≠ B ∧ gx ≠ g ∧
    HpS (w.heap.size + 1) B g cp H wr ∧ Hid (Hp H H.length) ∧ Hid (Tld X H) ∧ Hid (∀ t, t ∈ L.filter nameB ↔ t ∈ X ∨ t ∈ H) ∧ nx + H.length ≤ L.length ∧ Below w.heap.size w wr) (fun _ wr => boxN B wr)
  case atStart => exact ⟨[], H0, w.heap.size, 0, 0, rfl, rfl, hO1, by omega, by omega, hS0', HH0.out, ⟨List.Pairwise.nil, fun a ha => by cases ha⟩, fun t => by rw [HM0.out]; simp, by omega, hB1⟩
  case round =>
    obtain ⟨X, H, gx, nx, cx, rfl, HNX, HO, hx1, hx2, hS, HH, HT, HM, hlen, hB⟩ := hrel
    have hbx := hS.box.cell
    cases hn : H.length with
    | zero =>
      have e0 : H = [] := List.eq_nil_of_length_eq_zero hn
      have HX : Hid (X = nmsE L) := by
        refine putAll_one HT.out.rise (fun t => ?_)
        rw [HM.out, e0]
        simp
      rw [hn] at hbx
      clear hn
      go_wp2_with fail
      refine (wlen_any _ _ _ _).mono ?_
      rintro e w2 ⟨rfl, rfl⟩
      go_wp2
      go_ret
      exact ⟨gx, nx, cx, rfl, by rw [HNX.out, HX.out], by rw [← HX.out]; exact HO.out, hB⟩
    | succ n =>
      have HX0 : Hid (gT H 0 ∈ H) := by
        show gT H 0 ∈ H
        rw [gT_get (by omega)]
        exact List.getElem_mem _
      have HMin : Hid (∀ b ∈ H, leB (gT H 0) b) := fun b hb => by
        obtain ⟨k, hk, e⟩ := (has_all H b).mpr hb
        rw [← e]
        exact hp_least HH.out k k (Nat.le_refl _) hk
      have hc0 := hS.cell (show 0 < H.length by omega)
      have HS : Hid (HpS (w.heap.size + 1) B g cp H wr) := hS
      have HNh : Hid (H.length = n + 1) := hn
      have hlen' : nx + (n + 1) ≤ L.length := by omega
      have hwz := hB.size
      rw [hn] at hbx
      clear hn hS hlen
      generalize hx0 : gT H 0 = x at hc0 HX0 HMin
      have HX1 : Hid (gT H 0 = x) := hx0
      clear hx0
      have hn1 : (0 : Int) < ((n + 1 : Nat) : Int) := by omega
      rcases List.eq_nil_or_concat X with hX | ⟨Y, z, hX⟩
      · have HTel : Hid (tel X x = X ++ [x]) := by
          show tel X x = X ++ [x]
          rw [hX, tel_nil]; rfl
        have hnx : nx = 0 := by rw [HNX.out, hX]; rfl
        have HLen : Hid (0 + 1 = (X ++ [x]).length) := by
          show 0 + 1 = (X ++ [x]).length
          rw [hX]; rfl
        subst hnx
        clear hX
        go_wp2_with fail
        refine (wlen_any _ _ _ _).mono ?_
        rintro e w2 ⟨rfl, rfl⟩
        have hcc2 : ∀ u ∈ [Value.string x], u.oneCell' = true := fun u hu => by simp at hu; subst hu; rfl
        have hcc3 : 0 + 1 ≤ maxLen := by unfold maxLen; omega
        have hcc4 : (0 + 1) * 16 ≤ 140737488355328 := by omega
        have hcc5 : w.heap.size ≤ (wr.alloc (.cells #[.string x] 9)).heap.size := by simp; omega
        go_wp2_with (at_builtin; refine wpList_append_at _ rfl _ _ 22 rfl w.heap.size 9 i0 (.string ⟨#[]⟩) 1 16 Tryd.underlying22 hi hz0 hz1 hz2 rfl (by decide) _ _ _ rfl (World.ownsRow.alloc HO.out _) ⟨wr.heap.size, 0, none⟩ 1 1 [.string x] rfl rfl (cell_one_new _ _ _) hcc2 hcc3 hcc4 hcc5 ?_)
        intro v' w5 hown' hgrow hwh
        obtain ⟨g5, c5, rfl⟩ := ownsRow_succ hown'
        have hS5 : HpS (w.heap.size + 1) B g cp H w5 := (HS.out.call (balloc (Below.refl _ _) _)).grown hgrow (fun e => hx1 (by simpa [Value.ownBlock] using e.symm)) (fun e => hx2 (by simpa [Value.ownBlock] using e.symm))
        have hBz := HS.out.box.lt
        have hgz := HS.out.lt.2
        have n5 : g5 = gx ∨ wr.heap.size < g5 := by
          rcases hwh g5 rfl with e | e
          · exact Or.inl (by simpa [Value.ownBlock] using e.symm)
          · exact Or.inr (by omega)
        have n5B : g5 ≠ B := by omega
        have n5g : g5 ≠ g := by omega
        have HO5 : Hid (w5.ownsRow w.heap.size 9 1 (.slice (some ⟨g5, 0, none⟩) (0 + 1) c5) (0 + 1) ((X ++ [x]).map Value.string)) := by
          show w5.ownsRow w.heap.size 9 1 (.slice (some ⟨g5, 0, none⟩) (0 + 1) c5) (0 + 1) ((X ++ [x]).map Value.string)
          rw [List.map_append]
          exact hown'
        have hB5 : Below w.heap.size w w5 := (hB.alloc hB.size (.cells #[.string x] 9)).grown hgrow (by simp; omega) (fun k hk => (World.ownsRow.lt HO.out k hk).1)
        clear hown' hgrow hwh hcc2 hcc3 hcc4 hcc5 n5 hbx hc0 hBz hgz

        go_wp2_with fail
        refine (pop_any (w.heap.size + 1) B g cp n H _ hS5 HH.out HNh.out (by rw [HNh.out]; omega)).mono ?_
        rintro e w6 ⟨⟨v6, rfl⟩, K, hK1, hK2, hK3, hK4, hS6, hN6⟩
        have HO6 : Hid (w6.ownsRow w.heap.size 9 1 (.slice (some ⟨g5, 0, none⟩) 1 c5) 1 ((X ++ [x]).map Value.string)) := own_kept HO5.out (fun k hk => by
          have e : g5 = k := by simpa [Value.ownBlock] using hk
          subst e
          exact hN6.block _ (World.ownsRow.lt HO5.out _ rfl).2 (fun hh => hh.elim n5B n5g))
        have hB6 : Below w.heap.size w w6 := hB5.trans (hN6.below (fun k hk => by
          rcases hk with e | e
          · have := hS5.lo; omega
          · have := hS5.lt.1; omega) hB5.size)
        have HT6 : Hid (Tld (X ++ [x]) K) := by
          show Tld (X ++ [x]) K
          have hh := tld_step HT.out HX0.out HMin.out hK3
          rw [HTel.out] at hh
          exact hh
        have HM6 : Hid (∀ t, t ∈ L.filter nameB ↔ t ∈ (X ++ [x]) ∨ t ∈ K) := fun t => by
          have hm := tel_mem X x t
          rw [HTel.out] at hm
          constructor
          · intro hh
            rcases (HM.out t).mp hh with h1 | h1
            · exact Or.inl (hm.mpr (Or.inl h1))
            · rcases hK4 t h1 with h2 | h2
              · exact Or.inr h2
              · exact Or.inl (hm.mpr (Or.inr (h2.trans HX1.out)))
          · rintro (h1 | h1)
            · rcases hm.mp h1 with h2 | h2
              · exact (HM.out t).mpr (Or.inl h2)
              · exact (HM.out t).mpr (Or.inr (by rw [h2]; exact HX0.out))
            · exact (HM.out t).mpr (Or.inr (hK3 t h1))
        have HK2 : Hid (Hp K K.length) := hK2
        have HKn : Hid (K.length = n) := hK1
        have HBs : Hid (boxN B w6 < boxN B wr) := by
          show boxN B w6 < boxN B wr
          rw [hS6.boxN, HS.out.boxN, HNh.out, hK1]
          omega
        clear hK1 hK2 hK3 hK4 hN6 hS5 HO5 hB5 HS HT HM HO HX0 HMin
        go_wp2
        go_roundw
        case rel => exact ⟨(X ++ [x]), K, g5, 1, c5, rfl, HLen.out, HO6.out, n5B, n5g, hS6, HK2.out, HT6.out, HM6.out, by rw [HKn.out]; omega, hB6⟩
        case measure => exact HBs.out
      · rw [List.concat_eq_append] at hX
        have hnx : nx = Y.length + 1 := by rw [HNX.out, hX]; simp
        have hcz : wr.cell? ⟨gx, nx - 1, none⟩ = some (.string z) := by
          have hc := World.ownsRow.cells HO.out (g := gx) rfl (nx - 1) (.string z) (by rw [hX, hnx]; simp)
          have hadd : (⟨gx, 0, none⟩ : Addr).add (nx - 1) = ⟨gx, nx - 1, none⟩ := by unfold Addr.add; split <;> simp_all
          rwa [hadd] at hc
        have h1 : ¬ (nx : Int) = 0 := by omega
        have h1n : ¬ nx = 0 := by omega
        have h2 : (0 : Int) ≤ (nx : Int) - 1 := by omega
        have h3 : ((nx : Int) - 1).toNat = nx - 1 := by omega
        have h4 : nx - 1 < nx := by omega
        by_cases hzx : z = x
        · have HTel : Hid (tel X x = X) := by
            show tel X x = X
            rw [hX, tel_last, if_pos hzx]
          have HLen : Hid (nx = X.length) := HNX.out
          have hzb : (z.toList == x.toList) = true := by rw [hzx]; exact beq_self_eq_true _
          clear hX hnx
          have n5B := hx1
          have n5g := hx2
          have hS5 := HS.out
          have HO5 := HO
          have hB5 := hB
          go_wp2_with fail
          refine (wlen_any _ _ _ _).mono ?_
          rintro e w2 ⟨rfl, rfl⟩
          go_wp2_with fail
          refine (pop_any (w.heap.size + 1) B g cp n H _ hS5 HH.out HNh.out (by rw [HNh.out]; omega)).mono ?_
          rintro e w6 ⟨⟨v6, rfl⟩, K, hK1, hK2, hK3, hK4, hS6, hN6⟩
          have HO6 : Hid (w6.ownsRow w.heap.size 9 1 (.slice (some ⟨gx, 0, none⟩) nx cx) nx (X.map Value.string)) := own_kept HO5.out (fun k hk => by
            have e : gx = k := by simpa [Value.ownBlock] using hk
            subst e
            exact hN6.block _ (World.ownsRow.lt HO5.out _ rfl).2 (fun hh => hh.elim n5B n5g))
          have hB6 : Below w.heap.size w w6 := hB5.trans (hN6.below (fun k hk => by
            rcases hk with e | e
            · have := hS5.lo; omega
            · have := hS5.lt.1; omega) hB5.size)
          have HT6 : Hid (Tld X K) := by
            show Tld X K
            have hh := tld_step HT.out HX0.out HMin.out hK3
            rw [HTel.out] at hh
            exact hh
          have HM6 : Hid (∀ t, t ∈ L.filter nameB ↔ t ∈ X ∨ t ∈ K) := fun t => by
            have hm := tel_mem X x t
            rw [HTel.out] at hm
            constructor
            · intro hh
              rcases (HM.out t).mp hh with h1 | h1
              · exact Or.inl (hm.mpr (Or.inl h1))
              · rcases hK4 t h1 with h2 | h2
                · exact Or.inr h2
                · exact Or.inl (hm.mpr (Or.inr (h2.trans HX1.out)))
            · rintro (h1 | h1)
              · rcases hm.mp h1 with h2 | h2
                · exact (HM.out t).mpr (Or.inl h2)
                · exact (HM.out t).mpr (Or.inr (by rw [h2]; exact HX0.out))
              · exact (HM.out t).mpr (Or.inr (hK3 t h1))
          have HK2 : Hid (Hp K K.length) := hK2
          have HKn : Hid (K.length = n) := hK1
          have HBs : Hid (boxN B w6 < boxN B wr) := by
            show boxN B w6 < boxN B wr
            rw [hS6.boxN, HS.out.boxN, HNh.out, hK1]
            omega
          clear hK1 hK2 hK3 hK4 hN6 hS5 HO5 hB5 HS HT HM HO HX0 HMin
          go_wp2
          go_roundw
          case rel => exact ⟨X, K, gx, nx, cx, rfl, HLen.out, HO6.out, n5B, n5g, hS6, HK2.out, HT6.out, HM6.out, by rw [HKn.out]; omega, hB6⟩
          case measure => exact HBs.out
        · have HTel : Hid (tel X x = X ++ [x]) := by
            show tel X x = X ++ [x]
            rw [hX, tel_last, if_neg hzx]
          have HLen : Hid (nx + 1 = (X ++ [x]).length) := by
            show nx + 1 = (X ++ [x]).length
            rw [HNX.out, List.length_append]; rfl
          have hzb : (z.toList == x.toList) = false := str_ne hzx
          clear hX hnx
          go_wp2_with fail
          refine (wlen_any _ _ _ _).mono ?_
          rintro e w2 ⟨rfl, rfl⟩
          have hcc2 : ∀ u ∈ [Value.string x], u.oneCell' = true := fun u hu => by simp at hu; subst hu; rfl
          have hcc3 : nx + 1 ≤ maxLen := by unfold maxLen; omega
          have hcc4 : (nx + 1) * 16 ≤ 140737488355328 := by omega
          have hcc5 : w.heap.size ≤ (wr.alloc (.cells #[.string x] 9)).heap.size := by simp; omega
          go_wp2_with (at_builtin; refine wpList_append_at _ rfl _ _ 22 rfl w.heap.size 9 i0 (.string ⟨#[]⟩) 1 16 Tryd.underlying22 hi hz0 hz1 hz2 rfl (by decide) _ _ _ rfl (World.ownsRow.alloc HO.out _) ⟨wr.heap.size, 0, none⟩ 1 1 [.string x] rfl rfl (cell_one_new _ _ _) hcc2 hcc3 hcc4 hcc5 ?_)
          intro v' w5 hown' hgrow hwh
          obtain ⟨g5, c5, rfl⟩ := ownsRow_succ hown'
          have hS5 : HpS (w.heap.size + 1) B g cp H w5 := (HS.out.call (balloc (Below.refl _ _) _)).grown hgrow (fun e => hx1 (by simpa [Value.ownBlock] using e.symm)) (fun e => hx2 (by simpa [Value.ownBlock] using e.symm))
          have hBz := HS.out.box.lt
          have hgz := HS.out.lt.2
          have n5 : g5 = gx ∨ wr.heap.size < g5 := by
            rcases hwh g5 rfl with e | e
            · exact Or.inl (by simpa [Value.ownBlock] using e.symm)
            · exact Or.inr (by omega)
          have n5B : g5 ≠ B := by omega
          have n5g : g5 ≠ g := by omega
          have HO5 : Hid (w5.ownsRow w.heap.size 9 1 (.slice (some ⟨g5, 0, none⟩) (nx + 1) c5) (nx + 1) ((X ++ [x]).map Value.string)) := by
            show w5.ownsRow w.heap.size 9 1 (.slice (some ⟨g5, 0, none⟩) (nx + 1) c5) (nx + 1) ((X ++ [x]).map Value.string)
            rw [List.map_append]
            exact hown'
          have hB5 : Below w.heap.size w w5 := (hB.alloc hB.size (.cells #[.string x] 9)).grown hgrow (by simp; omega) (fun k hk => (World.ownsRow.lt HO.out k hk).1)
          clear hown' hgrow hwh hcc2 hcc3 hcc4 hcc5 n5 hbx hc0 hBz hgz

          go_wp2_with fail
          refine (pop_any (w.heap.size + 1) B g cp n H _ hS5 HH.out HNh.out (by rw [HNh.out]; omega)).mono ?_
          rintro e w6 ⟨⟨v6, rfl⟩, K, hK1, hK2, hK3, hK4, hS6, hN6⟩
          have HO6 : Hid (w6.ownsRow w.heap.size 9 1 (.slice (some ⟨g5, 0, none⟩) (nx + 1) c5) (nx + 1) ((X ++ [x]).map Value.string)) := own_kept HO5.out (fun k hk => by
            have e : g5 = k := by simpa [Value.ownBlock] using hk
            subst e
            exact hN6.block _ (World.ownsRow.lt HO5.out _ rfl).2 (fun hh => hh.elim n5B n5g))
          have hB6 : Below w.heap.size w w6 := hB5.trans (hN6.below (fun k hk => by
            rcases hk with e | e
            · have := hS5.lo; omega
            · have := hS5.lt.1; omega) hB5.size)
          have HT6 : Hid (Tld (X ++ [x]) K) := by
            show Tld (X ++ [x]) K
            have hh := tld_step HT.out HX0.out HMin.out hK3
            rw [HTel.out] at hh
            exact hh
          have HM6 : Hid (∀ t, t ∈ L.filter nameB ↔ t ∈ (X ++ [x]) ∨ t ∈ K) := fun t => by
            have hm := tel_mem X x t
            rw [HTel.out] at hm
            constructor
            · intro hh
              rcases (HM.out t).mp hh with h1 | h1
              · exact Or.inl (hm.mpr (Or.inl h1))
              · rcases hK4 t h1 with h2 | h2
                · exact Or.inr h2
                · exact Or.inl (hm.mpr (Or.inr (h2.trans HX1.out)))
            · rintro (h1 | h1)
              · rcases hm.mp h1 with h2 | h2
                · exact (HM.out t).mpr (Or.inl h2)
                · exact (HM.out t).mpr (Or.inr (by rw [h2]; exact HX0.out))
              · exact (HM.out t).mpr (Or.inr (hK3 t h1))
          have HK2 : Hid (Hp K K.length) := hK2
          have HKn : Hid (K.length = n) := hK1
          have HBs : Hid (boxN B w6 < boxN B wr) := by
            show boxN B w6 < boxN B wr
            rw [hS6.boxN, HS.out.boxN, HNh.out, hK1]
            omega
          clear hK1 hK2 hK3 hK4 hN6 hS5 HO5 hB5 HS HT HM HO HX0 HMin
          go_wp2
          go_roundw
          case rel => exact ⟨(X ++ [x]), K, g5, (nx + 1), c5, rfl, HLen.out, HO6.out, n5B, n5g, hS6, HK2.out, HT6.out, HM6.out, by rw [HKn.out]; omega, hB6⟩
          case measure => exact HBs.out

end Go.Proofs.YtefgmhlpcfmhlaaDoor
