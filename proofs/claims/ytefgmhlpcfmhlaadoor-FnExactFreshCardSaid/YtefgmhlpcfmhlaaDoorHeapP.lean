/-
  Chapter 7, the program: a name more in the heap, the least one taken out of it.
-/
import Derived.Test.YtefgmhlpcfmhlaaDoorHeapM
import Derived.Test.YtefgmhlpcfmhlaaDoorHeapD
import Derived.Test.YtefgmhlpcfmhlaaDoorFrsW
import Derived.OneCell
namespace Go.Proofs.YtefgmhlpcfmhlaaDoor
open Go.RowKit

theorem asserts_string (s : ByteArray) (W : World) : (Instr.typeAssert (.iface 9 (.string s)) 20 9 true).run Tryd.prog W = .ok (.tuple #[.string s, .bool true]) W := by kernel_rfl

set_option maxHeartbeats 2000000 in
/-- A name more at the end. -/
theorem wpush_any (n0 B g cp : Nat) (H : List ByteArray) (s : ByteArray) (w : World) (h : HpS n0 B g cp H w) (hl : H.length ≤ 9000000) (hn0 : n0 ≤ w.heap.size) :
    Calls Tryd.prog 77 #[.pointer (some ⟨B, 0, none⟩), .iface 9 (.string s)] w fun e w' => e = .returned (.tuple #[]) ∧ ∃ g' cp', HpS n0 B g' cp' (H ++ [s]) w' ∧ Nxt (HpF B g) (HpF B g') w w' := by
  obtain ⟨i0, hi, hz0, hz1, hz2⟩ := info_parts Tryd.infoS
  have hta := asserts_string s
  have hbx := h.box.cell
  have hbf := h.box.frozen
  have hne := h.ne
  have hlo := h.lo
  have HB : Hid (Boxed w B 43 (.slice (some ⟨g, 0, none⟩) H.length cp)) := h.box
  have HO : Hid (w.ownsRow n0 9 1 (.slice (some ⟨g, 0, none⟩) H.length cp) H.length (H.map Value.string)) := h.own
  have HN : Hid ((H ++ [s]).length = H.length + 1) := List.length_append ..
  have HMp : Hid ((H ++ [s]).map Value.string = H.map Value.string ++ [.string s]) := List.map_append ..
  obtain ⟨XS, hXS⟩ : ∃ X, X = H ++ [s] := ⟨_, rfl⟩
  rw [← hXS] at HN HMp ⊢
  have hBz := h.box.lt
  clear hXS h
  generalize H.length = n at *
  have hcc2 : ∀ u ∈ [Value.string s], u.oneCell' = true := fun u hu => by simp at hu; subst hu; rfl
  have hcc3 : n + 1 ≤ maxLen := by unfold maxLen; omega
  have hcc4 : (n + 1) * 16 ≤ 140737488355328 := by omega
  have hcc5 : n0 ≤ (w.alloc (.cells #[.string s] 9)).heap.size := by simp; omega
  go_enter Tryd.func77, Tryd.ntmps77
  go_wp2_with (at_builtin; refine wpList_append_at _ rfl _ _ 43 rfl n0 9 i0 (.string ⟨#[]⟩) 1 16 Tryd.underlying43 hi hz0 hz1 hz2 rfl (by decide) _ _ _ rfl (World.ownsRow.alloc HO.out _) ⟨w.heap.size, 0, none⟩ 1 1 [.string s] rfl rfl (cell_one_new _ _ _) hcc2 hcc3 hcc4 hcc5 ?_)
  intro v' w5 hown' hgrow hwh
  obtain ⟨g5, c5, rfl⟩ := ownsRow_succ hown'
  have hB1 : Boxed w5 B 43 (.slice (some ⟨g, 0, none⟩) n cp) := (HB.out.alloc _).kept hgrow (fun e => hne (by simpa [Value.ownBlock] using e))
  have hb5 := hB1.cell
  have hf5 := hB1.frozen
  have HB5 := hB1.set (.slice (some ⟨g5, 0, none⟩) (n + 1) c5)
  have hne5 : g5 ≠ B := fun e => Boxed.not_row hB1 (by decide) hown' (by rw [← e]; rfl)
  have HO5 := ownsRow_setCell_other hown' (a := ⟨B, 0, none⟩) (fun e => hne5 (by simpa [Value.ownBlock] using e)) (.slice (some ⟨g5, 0, none⟩) (n + 1) c5)
  have HNx : Hid (Nxt (HpF B g) (HpF B g5) w (w5.setCell ⟨B, 0, none⟩ (.slice (some ⟨g5, 0, none⟩) (n + 1) c5))) := by
    have n1 : Nxt (HpF B g) (HpF B g) w (w.alloc (.cells #[.string s] 9)) := Nxt.of_below _ (balloc (Below.refl _ _) _)
    have n2 := Nxt.grown (HpF B g) hgrow (fun k hk => Or.inr (by simpa [Value.ownBlock] using hk.symm))
    have n3 := Nxt.set (HpF B g) w5 (p := ⟨B, 0, none⟩) (.slice (some ⟨g5, 0, none⟩) (n + 1) c5) (Or.inl rfl)
    have n4 := (n1.trans n2).trans n3
    refine ⟨n4.os, n4.tape, n4.output, n4.size, n4.block, fun k hk => ?_⟩
    rcases hk with e | e
    · exact Or.inl (Or.inl e)
    · rcases hwh g5 rfl with h1 | h1
      · have h2 : g = g5 := by simpa [Value.ownBlock] using h1
        exact Or.inl (Or.inr (by rw [e, ← h2]))
      · exact Or.inr (by omega)
  have HS5 : Hid (HpS n0 B g5 c5 XS (w5.setCell ⟨B, 0, none⟩ (.slice (some ⟨g5, 0, none⟩) (n + 1) c5))) := by
    refine ⟨?_, ?_, hlo⟩
    · rw [HN.out]; exact HB5
    · rw [HN.out, HMp.out]; exact HO5
  clear hown' hgrow hwh hB1 HB5 HO5 hcc2 hcc3 hcc4 hcc5 hbx hbf hta
  go_wp2
  go_end0
  exact ⟨rfl, g5, c5, HS5.out, HNx.out⟩

theorem own_take {w : World} {B g n m cap : Nat} {e : TypeId} {xs : List Value} (h : w.ownsRow B e 1 (.slice (some ⟨g, 0, none⟩) n cap) n xs) (hm : m ≤ n) : w.ownsRow B e 1 (.slice (some ⟨g, 0, none⟩) m cap) m (xs.take m) ∧ n ≤ cap := by
  rcases h.2 with ⟨hv, _⟩ | ⟨g', cap', cur, hv, hB, hg, hcap, hmax, hsz, htake⟩
  · cases hv
  · injection hv with ha _ hc
    injection ha with ha
    injection ha with e1 _ _
    subst e1 hc
    have h1 := h.1
    refine ⟨⟨by rw [List.length_take]; omega, Or.inr ⟨g, cap, cur, rfl, hB, hg, by omega, hmax, hsz, ?_⟩⟩, hcap⟩
    rw [← htake, List.take_take]
    congr 1
    omega

set_option maxHeartbeats 2000000 in
/-- The last one taken away. -/
theorem wpop_any (n0 B g cp n : Nat) (H : List ByteArray) (w : World) (h : HpS n0 B g cp H w) (hn : H.length = n + 1) (hl : H.length ≤ 9000000) :
    Calls Tryd.prog 76 #[.pointer (some ⟨B, 0, none⟩)] w fun e w' => (∃ v, e = .returned v) ∧ HpS n0 B g cp (H.take n) w' ∧ Nxt (HpF B g) (HpF B g) w w' := by
  obtain ⟨ht, hcap⟩ := own_take h.own (show n ≤ H.length by omega)
  have hbx := h.box.cell
  have hbf := h.box.frozen
  have hc := h.cell (show n < H.length by omega)
  have HS : Hid (HpS n0 B g cp (H.take n) (w.setCell ⟨B, 0, none⟩ (.slice (some ⟨g, 0, none⟩) n cp))) := by
    have hlen : (H.take n).length = n := by rw [List.length_take]; omega
    have hne := h.ne
    refine ⟨?_, ?_, h.lo⟩
    · rw [hlen]; exact h.box.set _
    · rw [hlen, List.map_take]
      exact ownsRow_setCell_other ht (a := ⟨B, 0, none⟩) (fun e => hne (by simpa [Value.ownBlock] using e.symm)) _
  have HX : Hid (Nxt (HpF B g) (HpF B g) w (w.setCell ⟨B, 0, none⟩ (.slice (some ⟨g, 0, none⟩) n cp))) := Nxt.set _ _ _ (Or.inl rfl)
  rw [hn] at hbx hl hcap
  generalize gT H n = s at hc
  clear ht h hn
  have c1 : (n : Int) ≤ (cp : Int) := by omega
  go_enter Tryd.func76, Tryd.ntmps76
  go_wp2
  go_ret
  exact ⟨⟨_, rfl⟩, HS.out, HX.out⟩

set_option maxHeartbeats 2000000 in
theorem push_any (n0 B g cp : Nat) (H : List ByteArray) (s : ByteArray) (w : World) (h : HpS n0 B g cp H w) (hH : Hp H H.length) (hl : H.length ≤ 8000000) (hn0 : n0 ≤ w.heap.size) :
    Calls Tryd.prog 36 #[.iface 40 (.pointer (some ⟨B, 0, none⟩)), .iface 9 (.string s)] w fun e w' => e = .returned (.tuple #[]) ∧ ∃ g' cp' K, K.length = H.length + 1 ∧ Hp K K.length ∧ (∀ t, t ∈ K ↔ t ∈ H ∨ t = s) ∧ HpS n0 B g' cp' K w' ∧ Nxt (HpF B g) (HpF B g') w w' := by
  have mP := meth_push B w
  have eP := ent_push
  have HU : Hid (UpI (H ++ [s]) (H ++ [s]).length H.length) := up_start hH s
  have HL : Hid ((H ++ [s]).length = H.length + 1) := by simp [Hid]
  have HM : Hid (∀ t, t ∈ H ++ [s] ↔ t ∈ H ∨ t = s) := fun t => by rw [List.mem_append, List.mem_singleton]
  have HPu := wpush_any n0 B g cp H s w h (by omega) hn0
  generalize H ++ [s] = XS at HU HL HM HPu
  generalize hm : H.length = m at *
  clear hm
  go_enter Tryd.func36, Tryd.ntmps36
  go_wp2_with fail
  refine HPu.mono ?_
  rintro e w1 ⟨rfl, g', cp', hS1, hN1⟩
  have mN := meth_len B w1 _ hS1.box.cell
  have eN := ent_len
  rw [HL.out] at mN
  clear mP eP HPu
  go_wp2_with fail
  refine (wlen_any _ _ _ _).mono ?_
  rintro e w2 ⟨rfl, rfl⟩
  clear mN eN
  go_wp2_with fail
  refine (up_any n0 B g' cp' m XS _ hS1 HU.out (by rw [HL.out]; omega) (by rw [HL.out]; omega)).mono ?_
  rintro e w3 ⟨rfl, K, hK1, hK2, hK3, hK4, hK5⟩
  have HK : Hid (K.length = m + 1) := hK1.trans HL.out
  clear hK1
  go_wp2
  go_end0
  exact ⟨rfl, g', cp', K, HK.out, hK2, fun t => (hK3 t).trans (HM.out t), hK4, hN1.trans hK5⟩

set_option maxHeartbeats 2000000 in
theorem pop_any (n0 B g cp n : Nat) (H : List ByteArray) (w : World) (h : HpS n0 B g cp H w) (hH : Hp H H.length) (hn : H.length = n + 1) (hl : H.length ≤ 8000000) :
    Calls Tryd.prog 31 #[.iface 40 (.pointer (some ⟨B, 0, none⟩))] w fun e w' => (∃ v, e = .returned v) ∧ ∃ K, K.length = n ∧ Hp K K.length ∧ (∀ t, t ∈ K → t ∈ H) ∧ (∀ t, t ∈ H → t ∈ K ∨ t = gT H 0) ∧ HpS n0 B g cp K w' ∧ Nxt (HpF B g) (HpF B g) w w' := by
  have mN := meth_len B w _ h.box.cell
  have eN := ent_len
  rw [hn] at mN
  have HSw := hswap_any h (show 0 < H.length by omega) (show n < H.length by omega)
  have HD : Hid (DnI (swp H 0 n) n 0) := dn_start (by rw [← hn]; exact hH) hn.symm
  have HL : Hid ((swp H 0 n).length = n + 1) := (by rw [swp_len]; exact hn : (swp H 0 n).length = n + 1)
  have HA : Hid (∀ t, t ∈ H ↔ Has (swp H 0 n) n t ∨ t = gT H 0) := fun t => by
    have h1 := has_swp (H := H) (i := 0) (j := n) (n := n + 1) (by omega) (by omega) (by omega) t
    rw [← has_all, hn, ← h1]
    have h2 : gT (swp H 0 n) n = gT H 0 := by rw [swp_at (by omega) (by omega), if_pos rfl]
    constructor
    · rintro ⟨k, hk, e⟩
      by_cases hkn : k < n
      · exact Or.inl ⟨k, hkn, e⟩
      · obtain rfl : k = n := by omega
        exact Or.inr (by rw [← h2, e])
    · rintro (⟨k, hk, e⟩ | e)
      · exact ⟨k, by omega, e⟩
      · exact ⟨n, by omega, by rw [h2, e]⟩
  have mS0 := fun W (hb : W.cell? ⟨B, 0, none⟩ = some (.slice (some ⟨g, 0, none⟩) (n + 1) cp)) => meth_swap B W _ hb
  have HX := h.box.cell
  rw [hn] at hl HX HSw
  generalize swp H 0 n = XS at HSw HD HL HA
  clear hH hn
  go_enter Tryd.func31, Tryd.ntmps31
  go_wp2_with fail
  refine (wlen_any _ _ _ _).mono ?_
  rintro e w1 ⟨rfl, rfl⟩
  have mS := mS0 _ HX
  have eS := ent_swap
  clear mN eN mS0
  go_wp2_with fail
  refine HSw.mono ?_
  rintro e w2 ⟨rfl, hS2, hN2⟩
  clear mS eS HSw h HX
  go_wp2_with fail
  refine (down_any n0 B g cp n XS _ hS2 HD.out (by rw [HL.out]; omega) (by rw [HL.out]; omega)).mono ?_
  rintro e w3 ⟨⟨b, rfl⟩, K, hK1, hK2, hK3, hK4, hK5⟩
  have HK : Hid (K.length = n + 1) := hK1.trans HL.out
  have mP := meth_pop B w3
  have eP := ent_pop
  clear hK1
  go_wp2_with fail
  refine (wpop_any n0 B g cp n K _ hK4 HK.out (by rw [HK.out]; omega)).mono ?_
  rintro e w4 ⟨⟨v, rfl⟩, hS4, hN4⟩
  have HT : Hid ((K.take n).length = n) := by
    have := HK.out
    show (K.take n).length = n
    rw [List.length_take]; omega
  have HG : Hid (∀ k, k < n → gT (K.take n) k = gT K k) := fun k hk => by
    unfold gT
    simp [List.getD, hk]
  clear mP eP
  go_wp2
  go_ret
  refine ⟨⟨_, rfl⟩, K.take n, HT.out, ?_, ?_, ?_, hS4, (hN2.trans hK5).trans hN4⟩
  · rw [HT.out]
    intro c c0 c1
    rw [HG.out _ (by omega), HG.out _ c1]
    exact hK2 c c0 c1
  · intro t ht
    rw [← has_all, HT.out] at ht
    obtain ⟨k, hk, e⟩ := ht
    exact (HA.out t).mpr (Or.inl ((hK3 t).mp ⟨k, hk, by rw [← HG.out k hk]; exact e⟩))
  · intro t ht
    rcases (HA.out t).mp ht with h1 | h1
    · obtain ⟨k, hk, e⟩ := (hK3 t).mpr h1
      refine Or.inl ?_
      rw [← has_all, HT.out]
      exact ⟨k, hk, by rw [HG.out k hk]; exact e⟩
    · exact Or.inr h1

end Go.Proofs.YtefgmhlpcfmhlaaDoor
