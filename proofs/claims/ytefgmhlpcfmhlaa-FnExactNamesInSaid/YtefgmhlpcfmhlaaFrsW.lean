/-
  Chapter 7, the model: NamesIn, fresh names.
-/
import Derived.Test.YtefgmhlpcfmhlaaFrsL
import Derived.Test.YtefgmhlpcfmhlaaAtW
import Derived.Test.YtefgmhlpcfmhlaaDigits
import Derived.Test.YtefgmhlpcfmhlaaAppW
import Derived.RangeFuncBox
namespace Go.Proofs.Ytefgmhlpcfmhlaa
open Go.RowKit

theorem Lst.grown {c : Nat} {w w' : World} {v : Value} {X : List ByteArray} {row : Option Nat} (h : Lst c w v X) (hg : w.grownBy w' row) (hne : ∀ sb off n cp, v = .slice (some ⟨sb, off, none⟩) n cp → row ≠ some sb) : Lst c w' v X := by
  rcases h with h | ⟨sb, off, cap, hv, h1, h2, h3, h4, h5⟩
  · exact Or.inl h
  · refine Or.inr ⟨sb, off, cap, hv, h1, h2, Nat.lt_of_lt_of_le h3 hg.size, h4, fun i hi => ⟨?_, (h5 i hi).2⟩⟩
    refine (World.cell?_of_block (w := w) (a := ⟨sb, off + i, none⟩) ?_).trans (h5 i hi).1
    exact hg.block sb h3 (fun e => hne sb off _ _ hv e.symm)
theorem itoa_nat (u : Nat) : Lib.itoa (u : Int) = Lib.decDigits u := by unfold Lib.itoa; rw [if_neg (by omega)]; simp
theorem putAll_snoc (X Y : List ByteArray) (s : ByteArray) : putAll X (Y ++ [s]) = putL (putAll X Y) s := by rw [putAll_append]; rfl
theorem filt_take {L : List ByteArray} {k : Nat} (h : k < L.length) : (L.take (k + 1)).filter nameB = (L.take k).filter nameB ++ (if nameB L[k] then [L[k]] else []) := by
  rw [List.take_succ_eq_append_getElem h, List.filter_append]
  congr 1
  cases hq : nameB L[k] <;> simp [hq]
theorem filt_len (L : List ByteArray) (k : Nat) : (putAll [] ((L.take k).filter nameB)).length ≤ L.length := by
  have h1 := putAll_len ((L.take k).filter nameB) []
  have h2 := List.length_filter_le nameB (L.take k)
  rw [List.length_take] at h2
  simp only [List.length_nil] at h1
  omega
theorem nms_len (L : List ByteArray) : (nmsE L).length ≤ L.length := by
  have := filt_len L L.length
  rwa [List.take_length] at this

set_option maxRecDepth 100000 in
set_option maxHeartbeats 4000000 in
theorem namesInS_any (a : Option Addr) (cap : Nat) (L : List ByteArray) (w : World) (h : ArgT w a L) (hL : L.length ≤ 1048576) :
    Calls Try.prog 5 #[.slice a L.length cap] w fun e w' => ∃ v, e = .returned v ∧ OwnN w' w.heap.size v (nmsE L) ∧ Below w.heap.size w w' := by
  go_enter Try.func5, Try.ntmps5
  go_wp2
  go_loopw [3, 4] (fun v3 v4 wr => ∃ k : Nat, v4 = .int .i64 (k : Int) ∧ k ≤ L.length ∧ OwnN wr w.heap.size v3 (putAll [] ((L.take k).filter nameB)) ∧ Below w.heap.size w wr) (fun _ v4 _ => L.length - (intOf v4).toNat)
  case atStart => exact ⟨0, rfl, Nat.zero_le _, ownN_new w _ (Nat.le_refl _), balloc (Below.refl _ _) _⟩
  case round =>
    obtain ⟨k, rfl, hk, hown, hB⟩ := hrel
    obtain ⟨g, cp, rfl⟩ := hown.shape
    have hlen := filt_len L k
    have hmem : ∀ i (h : i < (putAll [] ((L.take k).filter nameB)).length), (putAll [] ((L.take k).filter nameB))[i].size ≤ maxLen := fun i hi => by
      have hm := List.getElem_mem hi
      rw [putAll_mem, List.mem_filter] at hm
      rcases hm with hm | hm
      · cases hm
      · obtain ⟨j, hj, he⟩ := List.getElem_of_mem (List.mem_of_mem_take hm.1)
        rw [← he]
        obtain ⟨_, _, _, _, _, h6⟩ := h j hj
        exact h6
    by_cases hlt : k < L.length
    · obtain ⟨sb, off, rfl, hs, hc, hmx⟩ := h k hlt
      have hc' := (hB.cell (p := ⟨sb, off + k, none⟩) hs).trans hc
      have HT := filt_take hlt
      have hsz := hB.size
      have hlst := hown.lst (c := sb) hs hmem
      generalize hX : putAll [] ((L.take k).filter nameB) = X at hown hlen hmem hlst HT ⊢
      cases hq : nameB L[k]
      · have HN : Hid (X = putAll [] ((L.take (k + 1)).filter nameB)) := by
          show X = _
          rw [HT, hq, ← hX]
          simp
        have HQ : Hid (nameB L[k] = false) := hq
        clear hq hX HT
        generalize L[k] = t at hc' hmx HQ
        go_wp2_with fail
        refine (nameOkS_any t _ hmx).mono ?_
        rintro e w2 ⟨rfl, rfl⟩
        rw [HQ.out]
        go_wp2
        go_roundw
        case rel => exact ⟨k + 1, by go_num, by omega, by rw [← HN.out]; exact hown, hB⟩
        case measure => simp [intOf]; omega
      · have HN : Hid (putL X L[k] = putAll [] ((L.take (k + 1)).filter nameB)) := by
          show putL X L[k] = _
          rw [HT, hq, ← hX]
          simp only [if_true]
          rw [putAll_snoc]
        have HQ : Hid (nameB L[k] = true) := hq
        clear hq hX HT hc
        generalize L[k] = t at hc' hmx HQ HN
        go_wp2_with fail
        refine (nameOkS_any t _ hmx).mono ?_
        rintro e w2 ⟨rfl, rfl⟩
        rw [HQ.out]
        go_wp2_with fail
        refine (l5Put_own sb _ X t _ hlst (by omega) hmx (by omega)).mono ?_
        rintro e w3 ⟨v', rfl, hor, _, hb3⟩
        have hB3 := hB.trans (hb3.mono hsz)
        have HR : Hid (OwnN w3 w.heap.size v' (putAll [] ((L.take (k + 1)).filter nameB))) := by
          show OwnN w3 w.heap.size v' _
          rw [← HN.out]
          rcases hor with ⟨rfl, he⟩ | ho
          · rw [he]; exact hown.call hb3
          · exact ⟨ownT_mono ho.1 hsz, ho.2⟩
        clear hor hown hlst hmem
        obtain ⟨g2, c2, rfl⟩ := HR.out.shape
        go_wp2
        go_roundw
        case rel => exact ⟨k + 1, by go_num, by omega, HR.out, hB3⟩
        case measure => simp [intOf]; omega
    · have e1 : k = L.length := by omega
      subst e1
      rw [List.take_length] at hown ⊢
      have HR : Hid (OwnN wr w.heap.size (.slice (some ⟨g, 0, none⟩) (nmsE L).length cp) (nmsE L)) := hown
      have e2 : (putAll [] (List.filter nameB L)).length = (nmsE L).length := rfl
      rw [e2]
      clear hown hmem hlen e2
      generalize (nmsE L).length = m at HR ⊢
      go_wp2
      go_ret
      exact ⟨_, rfl, HR.out, hB⟩

end Go.Proofs.Ytefgmhlpcfmhlaa
