/-
  ShowSigns, the model's: bytes behind bytes.
-/
import Derived.Test.YtekcofbgohnkhaaShowW
namespace Go.Proofs.Ytekcofbgohnkhaa
open Go.RowKit

/-- Bytes in memory of the call's own. -/
def OwnB (w : World) (B : Nat) (v : Value) (l : List UInt8) : Prop := w.ownsRow B 5 1 v l.length (Lib.byteCells l)
theorem OwnB.shape {w : World} {B : Nat} {v : Value} {l : List UInt8} (h : OwnB w B v l) : ∃ a cap, v = .slice a l.length cap := by
  rcases h.2 with ⟨rfl, hn⟩ | ⟨g, cap, cur, rfl, _⟩
  · exact ⟨none, 0, by rw [hn]⟩
  · exact ⟨_, cap, rfl⟩
theorem ownB_new (w : World) (B : Nat) (h : B ≤ w.heap.size) : OwnB (w.alloc (.cells #[] 5)) B (.slice (some ⟨w.heap.size, 0, none⟩) 0 0) [] :=
  World.ownsRow_made w #[] 0 h (by unfold maxLen; omega) rfl
/-- Such bytes made a text. -/
theorem OwnB.text {w : World} {B : Nat} {v : Value} {l : List UInt8} (h : OwnB w B v l) : ∀ dst, Try.prog.underlying dst = some .string → (convert 22 dst v).run Try.prog w = .ok (.string ⟨l.toArray⟩) w := by
  intro dst hd
  rcases h.2 with ⟨rfl, hn⟩ | ⟨g, cap, cur, rfl, _, hg, hcap, hmax, hsz, htake⟩
  · have : l = [] := List.length_eq_zero_iff.mp hn
    subst this
    exact run_convert_bytes_nil w _ _ Try.underlying22 Try.underlying5 _ _ dst hd
  · refine run_convert_bytes_back w _ dst _ ⟨g, 0, none⟩ cap l Try.underlying22 Try.underlying5 hd fun j hj => ?_
    have hc := World.ownsRow.cells (w := w) h (g := g) rfl (j := j) (u := .int .u8 (l[j].toNat : Int)) (by simp [Lib.byteCells, hj])
    exact hc

set_option maxHeartbeats 4000000 in
set_option maxRecDepth 100000 in
theorem l2Show_any (a : Option Addr) (cap : Nat) (L : List ByteArray) (w : World) (h : ArgT w a L) (hL : L.length ≤ 1048576) (hR : ∀ k, k ≤ L.length → roomN L k ≤ 3000000) :
    Calls Try.prog 41 #[.slice a L.length cap] w fun e w' => e = .returned (.string ⟨(showL L L.length).toArray⟩) ∧ Below w.heap.size w w' := by
  obtain ⟨i0, hi, hz0, hz1, hz2⟩ := info_parts infoByte
  go_enter Try.func41, Try.ntmps41
  go_wp2
  go_loopw [3, 4] (fun v i wr => ∃ k : Nat, k ≤ L.length ∧ OwnB wr w.heap.size v (showL L k) ∧ i = .int .i64 (k : Int) ∧ Below w.heap.size w wr) (fun _ i _ => L.length - (intOf i).toNat)
  case atStart => exact ⟨0, Nat.zero_le _, ownB_new w _ (Nat.le_refl _), rfl, balloc (Below.refl _ _) _⟩
  case round =>
    obtain ⟨k, hk, hown, rfl, hB⟩ := hrel
    have hsz := hB.size
    have hl1 : (showL L k).length ≤ 3000000 := Nat.le_trans (show_len L k hk) (hR k hk)
    obtain ⟨a', cap', rfl⟩ := hown.shape
    by_cases hlt : k < L.length
    · obtain ⟨sb, off, rfl, hs, hc, hm⟩ := h k hlt
      have hc' := (hB.cell (p := ⟨sb, off + k, none⟩) hs).trans hc
      have hr2 := hR (k + 1) hlt
      rw [room_succ hlt] at hr2
      have HG : Hid (L.getD k ⟨#[]⟩ = L[k]) := getD_at hlt
      clear hc
      cases k with
      | zero =>
        have HSH : Hid (showL L 1 = showL L 0 ++ (L.getD 0 ⟨#[]⟩).data.toList) := show_none rfl
        have hm2 : L[0].size ≤ 4000000 := by omega
        generalize L[0] = t at hc' hm hm2 HG
        simp only [Nat.add_zero] at hc'
        have hc3 : (showL L 0).length + t.size ≤ maxLen := by unfold maxLen; omega
        have hc4 : (showL L 0).length + t.size ≤ 140737488355328 := by omega
        go_wp2_with (at_builtin; refine Lib.wpList_append_own_string _ rfl _ _ 22 9 rfl w.heap.size 5 i0 Try.underlying22 Try.underlying9 hi hz0 hz1 hz2 _ _ _ rfl hown t rfl hc3 hc4 hB.size ?_)
        intro v' w3 hown' hgrow _
        have hR3 : OwnB w3 w.heap.size v' (showL L 1) := by
          rw [HSH.out, HG.out]
          unfold OwnB
          rw [← byteCells_str, List.length_append, Array.length_toList]
          exact hown'
        have hB3 : Below w.heap.size w w3 := hB.grown hgrow hB.size (fun k hk => (World.ownsRow.lt hown k hk).1)
        clear hown' hgrow
        go_wp2
        go_roundw
        case rel => exact ⟨1, hlt, hR3, by go_num, hB3⟩
        case measure => simp [intOf]; omega
      | succ j =>
        have hj : j < L.length := by omega
        obtain ⟨sb', off', hae, hs', hcj, _⟩ := h j hj
        injection hae with hae
        injection hae with e1 e2 _
        subst e1
        subst e2
        have hcj' := (hB.cell (p := ⟨sb, off + j, none⟩) hs').trans hcj
        have hm2 : L[j + 1].size ≤ 4000000 := by omega
        have HG0 : Hid (L.getD j ⟨#[]⟩ = L[j]) := getD_at hj
        have HGB : Hid (∀ x y, L[j] = x → L[j + 1] = y → gapB L (j + 1) = (!(x.toList == [40]) && !(y.toList == [41]))) := fun x y hx hy => by
          unfold gapB
          rw [HG.out, Nat.add_sub_cancel, HG0.out, hx, hy]
          simp
        clear hcj HG0
        generalize hp : L[j] = p at hcj'
        generalize ht : L[j + 1] = t at hc' hm hm2 HG
        have HGC : Hid (gapB L (j + 1) = (!(p.toList == [40]) && !(t.toList == [41]))) := HGB.out p t hp ht
        clear HGB hp ht
        cases hp40 : (p.toList == [40])
        · cases ht41 : (t.toList == [41])
          · have HSH : Hid (showL L (j + 1 + 1) = showL L (j + 1) ++ [32] ++ (L.getD (j + 1) ⟨#[]⟩).data.toList) := show_gap (by rw [HGC.out, hp40, ht41]; rfl)
            have hc3 : (showL L (j + 1)).length + 1 ≤ maxLen := by unfold maxLen; omega
            have hc4 : ((showL L (j + 1)).length + 1) * 1 ≤ 140737488355328 := by omega
            have hc5 : w.heap.size ≤ (wr.alloc (.cells #[.int .u8 32] 5)).heap.size := by simp; omega
            have hcc1 : ∀ j u, [Value.int .u8 32][j]? = some u → (wr.alloc (.cells #[.int .u8 32] 5)).cell? ((⟨wr.heap.size, 0, none⟩ : Addr).add j) = some u := fun j u hj => by
              match j, hj with
              | 0, hj => simp at hj; subst hj; simp [Addr.add]
            have hcc2 : ∀ u ∈ [Value.int .u8 32], u.oneCell' = true := fun u hu => by simp at hu; subst hu; rfl
            go_wp2_with (at_builtin; refine wpList_append_own _ rfl _ _ 22 rfl w.heap.size 5 i0 (.int .u8 0) 1 1 Try.underlying22 hi hz0 hz1 hz2 rfl (by decide) _ _ _ rfl (World.ownsRow.alloc hown _) ⟨wr.heap.size, 0, none⟩ 1 1 [.int .u8 32] rfl rfl hcc1 hcc2 hc3 hc4 hc5 ?_)
            intro v2 w2 hown2 hgrow2 _
            have hO2 : OwnB w2 w.heap.size v2 (showL L (j + 1) ++ [32]) := by
              unfold OwnB
              rw [Lib.byteCells_append, List.length_append, List.length_singleton]
              exact hown2
            have hB2 : Below w.heap.size w w2 := (balloc hB _).grown hgrow2 hc5 (fun k hk => (World.ownsRow.lt hown k hk).1)
            have hc2 := (hB2.cell (p := ⟨sb, off + (j + 1), none⟩) hs).trans ((hB.cell (p := ⟨sb, off + (j + 1), none⟩) hs).symm.trans hc')
            obtain ⟨a2, cap2, rfl⟩ := hO2.shape
            clear hown2 hgrow2 hc3 hc4 hc5
            have hc3 : (showL L (j + 1) ++ [32]).length + t.size ≤ maxLen := by rw [List.length_append, List.length_singleton]; unfold maxLen; omega
            have hc4 : (showL L (j + 1) ++ [32]).length + t.size ≤ 140737488355328 := by rw [List.length_append, List.length_singleton]; omega
            generalize hM : showL L (j + 1) ++ [32] = M at hO2 hc3 hc4
            have HM : Hid (showL L (j + 1) ++ [32] = M) := hM
            clear hM hc' hown
            go_wp2_with (at_builtin; refine Lib.wpList_append_own_string _ rfl _ _ 22 9 rfl w.heap.size 5 i0 Try.underlying22 Try.underlying9 hi hz0 hz1 hz2 _ _ _ rfl hO2 t rfl hc3 hc4 hB2.size ?_)
            intro v' w3 hown' hgrow _
            have hR3 : OwnB w3 w.heap.size v' (showL L (j + 1 + 1)) := by
              rw [HSH.out, HG.out, HM.out]
              unfold OwnB
              rw [← byteCells_str, List.length_append, Array.length_toList]
              exact hown'
            have hB3 : Below w.heap.size w w3 := hB2.grown hgrow hB2.size (fun k hk => (World.ownsRow.lt hO2 k hk).1)
            clear hown' hgrow
            go_wp2
            go_roundw
            case rel => exact ⟨j + 1 + 1, hlt, hR3, by go_num, hB3⟩
            case measure => simp [intOf]; omega
          · have HSH : Hid (showL L (j + 1 + 1) = showL L (j + 1) ++ (L.getD (j + 1) ⟨#[]⟩).data.toList) := show_none (by rw [HGC.out, hp40, ht41]; rfl)
            have hc3 : (showL L (j + 1)).length + t.size ≤ maxLen := by unfold maxLen; omega
            have hc4 : (showL L (j + 1)).length + t.size ≤ 140737488355328 := by omega
            go_wp2_with (at_builtin; refine Lib.wpList_append_own_string _ rfl _ _ 22 9 rfl w.heap.size 5 i0 Try.underlying22 Try.underlying9 hi hz0 hz1 hz2 _ _ _ rfl hown t rfl hc3 hc4 hB.size ?_)
            intro v' w3 hown' hgrow _
            have hR3 : OwnB w3 w.heap.size v' (showL L (j + 1 + 1)) := by
              rw [HSH.out, HG.out]
              unfold OwnB
              rw [← byteCells_str, List.length_append, Array.length_toList]
              exact hown'
            have hB3 : Below w.heap.size w w3 := hB.grown hgrow hB.size (fun k hk => (World.ownsRow.lt hown k hk).1)
            clear hown' hgrow
            go_wp2
            go_roundw
            case rel => exact ⟨(j + 1 + 1), hlt, hR3, by go_num, hB3⟩
            case measure => simp [intOf]; omega
        · have HSH : Hid (showL L (j + 1 + 1) = showL L (j + 1) ++ (L.getD (j + 1) ⟨#[]⟩).data.toList) := show_none (by rw [HGC.out, hp40]; rfl)
          have hc3 : (showL L (j + 1)).length + t.size ≤ maxLen := by unfold maxLen; omega
          have hc4 : (showL L (j + 1)).length + t.size ≤ 140737488355328 := by omega
          go_wp2_with (at_builtin; refine Lib.wpList_append_own_string _ rfl _ _ 22 9 rfl w.heap.size 5 i0 Try.underlying22 Try.underlying9 hi hz0 hz1 hz2 _ _ _ rfl hown t rfl hc3 hc4 hB.size ?_)
          intro v' w3 hown' hgrow _
          have hR3 : OwnB w3 w.heap.size v' (showL L (j + 1 + 1)) := by
            rw [HSH.out, HG.out]
            unfold OwnB
            rw [← byteCells_str, List.length_append, Array.length_toList]
            exact hown'
          have hB3 : Below w.heap.size w w3 := hB.grown hgrow hB.size (fun k hk => (World.ownsRow.lt hown k hk).1)
          clear hown' hgrow
          go_wp2
          go_roundw
          case rel => exact ⟨(j + 1 + 1), hlt, hR3, by go_num, hB3⟩
          case measure => simp [intOf]; omega
    · have e : k = L.length := by omega
      have hcv := hown.text
      subst e
      go_wp2
      go_ret
      exact ⟨rfl, hB⟩

set_option maxHeartbeats 1000000 in
theorem showS_any (a : Option Addr) (cap : Nat) (L : List ByteArray) (w : World) (h : ArgT w a L) (hL : L.length ≤ 1048576) (hR : ∀ k, k ≤ L.length → roomN L k ≤ 3000000) :
    Calls Try.prog 15 #[.slice a L.length cap] w fun e w' => e = .returned (.string (showB L)) ∧ Below w.heap.size w w' := by
  cases hq : signsB L
  · have HS : Hid (showB L = ⟨#[]⟩) := (by unfold showB; rw [hq]; rfl : showB L = ⟨#[]⟩)
    have HQ : Hid (signsB L = false) := hq
    clear hq
    go_enter Try.func15, Try.ntmps15
    go_wp2_with fail
    refine (l2Signs_any a cap L _ h hL).mono ?_
    rintro e w1 ⟨rfl, hb⟩
    rw [HQ.out]
    go_wp2
    go_ret
    exact ⟨by rw [HS.out]; rfl, hb⟩
  · have HS : Hid (showB L = ⟨(showL L L.length).toArray⟩) := (by unfold showB; rw [hq]; rfl : showB L = ⟨(showL L L.length).toArray⟩)
    have HQ : Hid (signsB L = true) := hq
    clear hq
    go_enter Try.func15, Try.ntmps15
    go_wp2_with fail
    refine (l2Signs_any a cap L _ h hL).mono ?_
    rintro e w1 ⟨rfl, hb⟩
    rw [HQ.out]
    go_wp2_with fail
    refine (l2Show_any a cap L _ (h.call hb) hL hR).mono ?_
    rintro e w2 ⟨rfl, hb2⟩
    go_wp2
    go_ret
    exact ⟨by rw [HS.out]; rfl, bstep hb hb2⟩

end Go.Proofs.Ytekcofbgohnkhaa
