/-
  RdFour: SrtL, RdP, RdQ, LawD5, in one text.
-/
import Derived.Test.YtfmbakjphhlehaaGreatDoorZPlain
import Derived.Test.YtfmbakjphhlehaaGreatDoorZRdN
import Derived.Test.YtfmbakjphhlehaaGreatDoorZShelfS
import Derived.Test.YtfmbakjphhlehaaGreatDoorZFreeC
import Derived.Lib.SlicesCompact
import Derived.Lib.RowBridge
import Derived.Lib.OwnBridge
import Derived.Sort.OwnSorted
import Derived.Sort.Grow
/-
  Names sorted and each once: what the library's Sort and Compact leave is the list in its order.
-/
namespace Go.Proofs.YtfmbakjphhlehaaGreatDoor
open Go.RowKit Go.Sort

theorem bl_lt : ∀ x y : List UInt8, Op.bytesLess x y = true ↔ x < y
  | [], [] => by simp [Op.bytesLess]
  | [], b :: y => by simp [Op.bytesLess]
  | a :: x, [] => by simp [Op.bytesLess]
  | a :: x, b :: y => by
    rw [List.cons_lt_cons_iff, ← bl_lt x y]
    simp [Op.bytesLess]
/-- In their order, the same one twice or not. -/
def Srt (d : Array (List UInt8)) : Prop := ∀ i j, i ≤ j → j < d.size → d[i]! ≤ d[j]!
theorem lt_of_le_ne {x y : List UInt8} (h : x ≤ y) (hne : y ≠ x) : Op.bytesLess x y = true := by
  rcases bl_total x y (fun e => hne e.symm) with h1 | h1
  · exact h1
  · exact absurd ((bl_lt y x).mp h1) (List.not_lt.mpr h)
theorem upTo_mem (d : Array (List UInt8)) : ∀ m, m ≤ d.size → (∀ x ∈ Lib.compactUpTo d m, ∃ j, j < m ∧ x = d[j]!) ∧ (∀ j, j < m → d[j]! ∈ Lib.compactUpTo d m)
  | 0, _ => ⟨fun x hx => by simp [Lib.compactUpTo] at hx, fun j hj => by omega⟩
  | m + 1, hm => by
    obtain ⟨h1, h2⟩ := upTo_mem d m (by omega)
    rw [Lib.compactUpTo_succ]
    refine ⟨fun x hx => ?_, fun j hj => ?_⟩
    · rcases List.mem_append.mp hx with hx | hx
      · obtain ⟨j, hj, e⟩ := h1 x hx
        exact ⟨j, by omega, e⟩
      · split at hx
        · rw [List.mem_singleton] at hx
          exact ⟨m, by omega, hx⟩
        · cases hx
    · by_cases hjm : j < m
      · exact List.mem_append.mpr (Or.inl (h2 j hjm))
      · obtain rfl : j = m := by omega
        by_cases hk : Lib.keeps d j = true
        · rw [if_pos hk]
          exact List.mem_append.mpr (Or.inr (List.mem_singleton.mpr rfl))
        · have h0 : 0 < j := by
            rcases Nat.eq_zero_or_pos j with e | e
            · subst e
              exact absurd (Lib.keeps_lt_one d 0 (by omega)) hk
            · exact e
          have he : d[j]! = d[j - 1]! := Classical.byContradiction fun hne => hk (Lib.keeps_pos hne)
          rw [he]
          exact List.mem_append.mpr (Or.inl (h2 (j - 1) (by omega)))
theorem upTo_rise (d : Array (List UInt8)) (hs : Srt d) : ∀ m, m ≤ d.size → (Lib.compactUpTo d m).Pairwise fun a b => Op.bytesLess a b = true
  | 0, _ => by simp [Lib.compactUpTo]
  | m + 1, hm => by
    have ih := upTo_rise d hs m (by omega)
    rw [Lib.compactUpTo_succ]
    by_cases hk : Lib.keeps d m = true
    · rw [if_pos hk, List.pairwise_append]
      refine ⟨ih, List.pairwise_singleton .., fun x hx y hy => ?_⟩
      rw [List.mem_singleton] at hy
      subst hy
      obtain ⟨j, hj, rfl⟩ := (upTo_mem d m (by omega)).1 x hx
      have hne : d[m]! ≠ d[m - 1]! := fun e => by
        have := Lib.keeps_neg (d := d) (m := m) (by omega) e
        rw [this] at hk
        cases hk
      have h1 := lt_of_le_ne (hs (m - 1) m (by omega) (by omega)) hne
      by_cases hjm : d[j]! = d[m - 1]!
      · rw [hjm]; exact h1
      · exact bl_trans _ _ _ (lt_of_le_ne (hs j (m - 1) (by omega) (by omega)) (fun e => hjm e.symm)) h1
    · rw [if_neg hk, List.append_nil]
      exact ih
theorem gE {l : List (List UInt8)} {j : Nat} (h : j < l.length) : l.toArray[j]! = l[j] := by
  rw [getElem!_pos _ j (by simpa using h)]
  simp
theorem srt_merge (ss : List (List UInt8)) : Srt (ss.mergeSort fun x y => decide (x ≤ y)).toArray := by
  have hp := List.pairwise_mergeSort (le := fun (x y : List UInt8) => decide (x ≤ y)) (fun a b c h1 h2 => by
    simp only [decide_eq_true_eq] at h1 h2 ⊢
    exact List.le_trans h1 h2) (fun a b => by
    simp only [Bool.or_eq_true, decide_eq_true_eq]
    exact List.le_total a b) ss
  intro i j hij hj
  have hj' : j < (ss.mergeSort fun x y => decide (x ≤ y)).length := by simpa using hj
  rcases Nat.lt_or_eq_of_le hij with h | rfl
  · have := List.pairwise_iff_getElem.mp hp i j (by omega) hj' h
    simp only [decide_eq_true_eq] at this
    rw [gE (by omega), gE hj']
    exact this
  · exact List.le_refl _
/-- The bytes of names, and back. -/
def bts (X : List ByteArray) : List (List UInt8) := X.map fun s => s.data.toList
def unb (Y : List (List UInt8)) : List ByteArray := Y.map fun l => ⟨l.toArray⟩
theorem bts_string (X : List ByteArray) : (bts X).map encStr = X.map Value.string := by
  unfold bts encStr
  simp
theorem unb_string (Y : List (List UInt8)) : (unb Y).map Value.string = Y.map encStr := by
  unfold unb encStr
  simp
/-- What Sort and Compact leave. -/
def srtL (X : List ByteArray) : List ByteArray := unb (Lib.compact ((bts X).mergeSort fun x y => decide (x ≤ y)))
theorem srtL_put (X : List ByteArray) : srtL X = putAll [] X := by
  refine putAll_one ?_ (fun s => ?_)
  · unfold Rise srtL unb
    rw [List.pairwise_map]
    have h := upTo_rise _ (srt_merge (bts X)) ((bts X).mergeSort fun x y => decide (x ≤ y)).length (by simp)
    refine h.imp ?_
    intro a b hab
    unfold ltB
    rw [ByteArray.toList_eq, ByteArray.toList_eq]
    exact hab
  · unfold srtL unb
    rw [List.mem_map]
    have hm := upTo_mem ((bts X).mergeSort fun x y => decide (x ≤ y)).toArray ((bts X).mergeSort fun x y => decide (x ≤ y)).length (by simp)
    have hperm := List.mergeSort_perm (bts X) (fun x y => decide (x ≤ y))
    constructor
    · rintro ⟨l, hl, rfl⟩
      obtain ⟨j, hj, e⟩ := hm.1 l hl
      have : l ∈ bts X := by
        refine hperm.subset ?_
        rw [e, gE hj]
        exact List.getElem_mem _
      unfold bts at this
      obtain ⟨s, hs, rfl⟩ := List.mem_map.mp this
      have es : (⟨s.data.toList.toArray⟩ : ByteArray) = s := by cases s; simp
      rw [es]
      exact hs
    · intro hs
      have : s.data.toList ∈ bts X := List.mem_map.mpr ⟨s, hs, rfl⟩
      have h2 := hperm.symm.subset this
      obtain ⟨j, hj, e⟩ := List.getElem_of_mem h2
      refine ⟨s.data.toList, ?_, by cases s; simp⟩
      have := hm.2 j hj
      rw [gE hj] at this
      rw [← e]
      exact this
end Go.Proofs.YtfmbakjphhlehaaGreatDoor

/-
  Chapter 5, the program: what is used and not known.
-/
namespace Go.Proofs.YtfmbakjphhlehaaGreatDoor
open Go.RowKit Go.Shelf Go.Sort

/-- What is used and not known, of that matter, in its order. -/
noncomputable def unkE (L : List ByteArray) (q : Bool) : List ByteArray := if playB L then putAll [] (if q then (findO L).sc else (findO L).fr) else []
/-- Texts in memory of the call's own, not nil. -/
def OwnG (w : World) (B : Nat) (g n cp : Nat) (X : List ByteArray) : Prop := w.ownsRow B 9 1 (.slice (some ⟨g, 0, none⟩) n cp) n (X.map Value.string)
theorem own_types {w : World} {B B' : Nat} {e e' : TypeId} {sz sz' n n' : Nat} {v v' : Value} {xs xs' : List Value} (h : w.ownsRow B e sz v n xs) (h' : w.ownsRow B' e' sz' v' n' xs') (hne : e ≠ e') {g : Nat} (hg : v.ownBlock = some g) : v'.ownBlock ≠ some g := by
  intro hg'
  rcases h.2 with ⟨rfl, _⟩ | ⟨g1, c1, cur1, rfl, _, h1, _⟩
  · simp [Value.ownBlock] at hg
  · rcases h'.2 with ⟨rfl, _⟩ | ⟨g2, c2, cur2, rfl, _, h2, _⟩
    · simp [Value.ownBlock] at hg'
    · simp [Value.ownBlock] at hg hg'
      subst hg hg'
      rw [h1] at h2
      injection h2 with h2
      injection h2 with _ h3 _
      exact hne h3
/-- Behind Sort and Compact. -/
theorem sorted_left {w w1 : World} {g cap n nn q : Nat} {os : Array Obj} {X : List ByteArray} (hown : OwnG w1 w.heap.size g n cap X) (hn : n = X.length) (hbel : Below w.heap.size w w1) :
    OwnG (putRow encStr (Sort.ahead (grow (putRow encStr (Sort.ahead w1 nn) g 0 ((bts X).mergeSort fun x y => decide (x ≤ y)).toArray) os) q) g 0 (Lib.compact ((bts X).mergeSort fun x y => decide (x ≤ y)) ++ List.replicate (n - (Lib.compact ((bts X).mergeSort fun x y => decide (x ≤ y))).length) []).toArray) w.heap.size g (Lib.compact ((bts X).mergeSort fun x y => decide (x ≤ y))).length cap (putAll [] X) ∧
    Below w.heap.size w (putRow encStr (Sort.ahead (grow (putRow encStr (Sort.ahead w1 nn) g 0 ((bts X).mergeSort fun x y => decide (x ≤ y)).toArray) os) q) g 0 (Lib.compact ((bts X).mergeSort fun x y => decide (x ≤ y)) ++ List.replicate (n - (Lib.compact ((bts X).mergeSort fun x y => decide (x ≤ y))).length) []).toArray) := by
  have hl2 : ((bts X).mergeSort fun x y => decide (x ≤ y)).length = (bts X).length := List.length_mergeSort (bts X)
  have hl3 : (bts X).length = X.length := by simp [bts]
  have hle := Lib.compact_length_le ((bts X).mergeSort fun x y => decide (x ≤ y))
  rw [hn] at hown ⊢
  rcases hown.2 with ⟨h0, _⟩ | ⟨g', cap', cur, hv, hbase, hb, h1, h2, h3, h4⟩
  · cases h0
  cases hv
  rw [← hl3] at h1
  have hs := ownsRow_sorted (n := nn) (os := os) (ss := bts X) (ts := (bts X).mergeSort fun x y => decide (x ≤ y)) hl2 hbase hb h1 h2 h3
  have hc := Lib.ownsRow_putRow (q := q) (k := (Lib.compact ((bts X).mergeSort fun x y => decide (x ≤ y))).length) (ys := Lib.compact ((bts X).mergeSort fun x y => decide (x ≤ y)) ++ List.replicate (X.length - (Lib.compact ((bts X).mergeSort fun x y => decide (x ≤ y))).length) []) hs (by simp; omega) (by omega)
  rw [List.take_left] at hc
  refine ⟨?_, Lib.below_putRow (hbel.grown (grownBy_sorted _) hbel.size (fun j hj => by cases hj; exact hbase)) hbase⟩
  unfold OwnG
  rw [← srtL_put]
  unfold srtL
  rw [unb_string]
  exact hc
theorem flatU_at : ∀ (us : List (Int × Int × Bool)) (k : Nat) (h : k < us.length), (flatU us)[k * 3]? = some (.int .i64 us[k].1) ∧ (flatU us)[k * 3 + 1]? = some (.int .i64 us[k].2.1) ∧ (flatU us)[k * 3 + 2]? = some (.bool us[k].2.2)
  | [], k, h => absurd h (Nat.not_lt_zero _)
  | u :: us, 0, _ => ⟨rfl, rfl, rfl⟩
  | u :: us, k + 1, h => by
    have ih := flatU_at us k (by simpa using h)
    have e : flatU (u :: us) = .int .i64 u.1 :: .int .i64 u.2.1 :: .bool u.2.2 :: flatU us := rfl
    rw [e, show (k + 1) * 3 = k * 3 + 1 + 1 + 1 by omega, show k * 3 + 1 + 1 + 1 + 1 = (k * 3 + 1) + 1 + 1 + 1 by omega, show k * 3 + 1 + 1 + 1 + 2 = (k * 3 + 2) + 1 + 1 + 1 by omega]
    simpa using ih
theorem sel_take {L : List ByteArray} {us : List (Int × Int × Bool)} {q : Bool} {k : Nat} (h : k < us.length) : selU L (us.take (k + 1)) q = selU L (us.take k) q ++ (if us[k].2.1 == -1 && us[k].2.2 == q then [sgAt L us[k].1] else []) := by
  rw [List.take_succ_eq_append_getElem h, sel_snoc]
theorem sel_len (L : List ByteArray) (us : List (Int × Int × Bool)) (q : Bool) : (selU L us q).length ≤ us.length := by
  unfold selU
  rw [List.length_map]
  exact List.length_filter_le ..

set_option maxRecDepth 100000 in
set_option maxHeartbeats 8000000 in
theorem unknownIn_any (a : Option Addr) (cap : Nat) (L : List ByteArray) (q : Bool) (w : World) (ht : Tab w) (h : ArgT w a L) (hL : L.length ≤ 1048576) :
    Calls Tryz.prog 28 #[.slice a L.length cap, .bool q] w fun e w' => ∃ g n cp, e = .returned (.slice (some ⟨g, 0, none⟩) n cp) ∧ n = (unkE L q).length ∧ OwnG w' w.heap.size g n cp (unkE L q) ∧ Below w.heap.size w w' := by
  have hB0 := balloc (Below.refl w.heap.size w) (.cells #[] 9)
  have HG0 : Hid (OwnG (w.alloc (.cells #[] 9)) w.heap.size w.heap.size 0 0 []) := World.ownsRow_made w #[] 0 (Nat.le_refl _) (Nat.zero_le _) rfl
  cases hp : playB L
  · have HU : Hid (unkE L q = []) := (by unfold unkE; rw [hp]; rfl : unkE L q = [])
    have HP : Hid (playB L = false) := hp
    rw [HU.out]
    clear hp
    go_enter Tryz.func28, Tryz.ntmps28
    go_wp2_with fail
    refine (playOkI_any a cap L _ (tab_call ht hB0) (h.call hB0) hL).mono ?_
    rintro e w1 ⟨rfl, hb1⟩
    rw [HP.out]
    have hB1 := bstep hB0 hb1
    have HG1 : Hid (OwnG w1 w.heap.size w.heap.size 0 0 []) := own_kept HG0.out (fun g hg => hb1.block g (World.ownsRow.lt HG0.out g hg).2)
    go_wp2
    go_ret
    exact ⟨_, _, _, rfl, rfl, HG1.out, hB1⟩
  · have HU : Hid (unkE L q = putAll [] (if q then (findO L).sc else (findO L).fr)) := (by unfold unkE; rw [hp]; rfl : unkE L q = putAll [] (if q then (findO L).sc else (findO L).fr))
    have HP : Hid (playB L = true) := hp
    obtain ⟨i0, hi, hz0, hz1, hz2⟩ := info_parts infoT
    have hl2 := play_len' hp
    have HRP : Hid (∀ W, Tab W → ArgT W a L → Calls Tryz.prog 29 #[.slice a L.length cap] W fun r w' => ∃ (x : RdX) (U : Nat), r = .returned (.agg #[.slice a L.length cap, x.vb, .int .i64 0, x.vu, .bool x.fu, .bool x.ft, .bool x.fo, .bool x.fv]) ∧ w'.ownsRow W.heap.size 63 3 x.vu x.us.length (flatU x.us) ∧ SaidR L x (findO L) U ∧ U ≤ L.length ∧ Below W.heap.size W w') := fun W h1 h2 => readPlay_any a cap L W h1 h2 hp
    clear hp
    go_enter Tryz.func28, Tryz.ntmps28
    go_wp2_with fail
    refine (playOkI_any a cap L _ (tab_call ht hB0) (h.call hB0) hL).mono ?_
    rintro e w1 ⟨rfl, hb1⟩
    rw [HP.out]
    have hB1 := bstep hB0 hb1
    have HG1 : Hid (OwnG w1 w.heap.size w.heap.size 0 0 []) := own_kept HG0.out (fun g hg => hb1.block g (World.ownsRow.lt HG0.out g hg).2)
    go_wp2_with fail
    refine (HRP.out _ (tab_call ht hB1) (h.call hB1)).mono ?_
    rintro r w2 ⟨x, U, rfl, hrow, hS, hU, hb2⟩
    have hB2 := bstep hB1 hb2
    have HG2 : Hid (OwnG w2 w.heap.size w.heap.size 0 0 []) := own_kept HG1.out (fun g hg => hb2.block g (World.ownsRow.lt HG1.out g hg).2)
    obtain ⟨au, cu, hvu, hcu, _, hun, hus⟩ := own_shape hrow
    have hfd : ∀ W, (Instr.field 42 (.agg #[.slice a L.length cap, x.vb, .int .i64 0, .slice au x.us.length cu, .bool x.fu, .bool x.ft, .bool x.fo, .bool x.fv]) 3).run Tryz.prog W = .ok (.slice au x.us.length cu) W := fun _ => by kernel_rfl
    rw [hvu] at hrow ⊢
    have hcnt := hS.cnt
    have HIN : Hid (∀ u ∈ x.us, 0 ≤ u.1 ∧ u.1 < (L.length : Int)) := hS.inL
    have HSEL : Hid (selU L x.us q = (if q then (findO L).sc else (findO L).fr)) := by
      cases q
      · exact hS.fr
      · exact hS.sc
    have HROW : Hid (w2.ownsRow w1.heap.size 63 3 (.slice au x.us.length cu) x.us.length (flatU x.us)) := hrow
    have hul : x.us.length ≤ 2000 := by omega
    clear hrow hS HRP HG0 HG1 hB0 hB1 hb1 hb2 hvu
    generalize x.us = us at *
    generalize x.vb = vb at *
    generalize x.fu = b1 at *
    generalize x.ft = b2 at *
    generalize x.fo = b3 at *
    generalize x.fv = b4 at *
    go_wp2
    go_loopw [5, 17] (fun v5 v17 wr => ∃ (k g n5 c5 : Nat), v17 = .int .i64 (k : Int) ∧ v5 = .slice (some ⟨g, 0, none⟩) n5 c5 ∧ k ≤ us.length ∧ Hid (n5 = (selU L (us.take k) q).length) ∧ OwnG wr w.heap.size g n5 c5 (selU L (us.take k) q) ∧ wr.ownsRow w1.heap.size 63 3 (.slice au us.length cu) us.length (flatU us) ∧ Below w.heap.size w wr) (fun _ v17 _ => us.length - (intOf v17).toNat)
    case atStart => exact ⟨0, _, 0, 0, rfl, rfl, Nat.zero_le _, rfl, HG2.out, HROW.out, hB2⟩
    case round =>
      clear HG2 HROW
      obtain ⟨k, g, n5, c5, rfl, rfl, hk, HN, hG, hrow, hB⟩ := hrel
      by_cases hlt : k < us.length
      · obtain ⟨gu, rfl⟩ : ∃ gu, au = some ⟨gu, 0, none⟩ := by
          cases au with
          | none => exact absurd (hun rfl) (by omega)
          | some p => obtain ⟨gu, rfl, _⟩ := hus p rfl; exact ⟨gu, rfl⟩
        obtain ⟨f1, f2, f3⟩ := flatU_at us k hlt
        have hadd : ∀ j, (⟨gu, 0, none⟩ : Addr).add j = ⟨gu, j, none⟩ := fun j => by unfold Addr.add; split <;> simp_all
        have d1 := World.ownsRow.cells hrow (g := gu) rfl _ _ f1
        have d2 := World.ownsRow.cells hrow (g := gu) rfl _ _ f2
        have d3 := World.ownsRow.cells hrow (g := gu) rfl _ _ f3
        rw [hadd] at d1 d2 d3
        obtain ⟨y0, y1⟩ := HIN.out _ (List.getElem_mem hlt)
        have HST : Hid (selU L (us.take (k + 1)) q = selU L (us.take k) q ++ (if us[k].2.1 == -1 && us[k].2.2 == q then [sgAt L us[k].1] else [])) := sel_take hlt
        have hgu := (World.ownsRow.lt hrow gu rfl)
        have hty := own_types hrow hG (by decide) (g := gu) rfl
        generalize us[k].1 = z1 at d1 y0 y1 HST
        generalize us[k].2.1 = x2 at d2 HST
        generalize us[k].2.2 = x3 at d3 HST
        obtain ⟨x1, rfl⟩ : ∃ x1 : Nat, z1 = (x1 : Int) := ⟨z1.toNat, by omega⟩
        obtain ⟨sa, oa, rfl, hsa, hac, ham⟩ := h x1 (by omega)
        have hac' := (hB.cell (p := ⟨sa, oa + x1, none⟩) hsa).trans hac
        have hsg : sgAt L (x1 : Int) = L[x1] := by rw [sgAt_in (by omega) (by omega)]; rfl
        rw [← hsg] at hac' ham
        have hkk : (k : Int) < (us.length : Int) := by omega
        clear hac f1 f2 f3 hadd hsg hun hus
        by_cases hx2 : x2 = -1
        · subst hx2
          cases hx3 : (x3 == q)
          · have HX : Hid (selU L (us.take (k + 1)) q = selU L (us.take k) q) := (by rw [HST.out, hx3]; simp : selU L (us.take (k + 1)) q = selU L (us.take k) q)
            have bq : (x3 == q) = false := hx3
            clear HST hx3
            have hrow' : (wr.alloc (.cells #[.int .i64 (x1 : Int), .int .i64 (-1), .bool x3] 63)).ownsRow w1.heap.size 63 3 (.slice (some ⟨gu, 0, none⟩) us.length cu) us.length (flatU us) := World.ownsRow.alloc hrow _
            have hG' : OwnG (wr.alloc (.cells #[.int .i64 (x1 : Int), .int .i64 (-1), .bool x3] 63)) w.heap.size g n5 c5 (selU L (us.take (k + 1)) q) := by rw [HX.out]; exact World.ownsRow.alloc hG _
            have hB' := hB.alloc hB.size (.cells #[.int .i64 (x1 : Int), .int .i64 (-1), .bool x3] 63)
            clear hrow hG
            go_wp2
            go_roundw
            case rel => exact ⟨k + 1, g, n5, c5, by go_num, rfl, by omega, by rw [HX.out]; exact HN.out, hG', hrow', hB'⟩
            case measure => simp [intOf]; omega
          · have e3 : x3 = q := by simpa using hx3
            subst e3
            have HX : Hid (selU L (us.take (k + 1)) x3 = selU L (us.take k) x3 ++ [sgAt L (x1 : Int)]) := (by rw [HST.out]; simp : selU L (us.take (k + 1)) x3 = selU L (us.take k) x3 ++ [sgAt L (x1 : Int)])
            generalize hs : sgAt L (x1 : Int) = s at hac' ham HX
            have hsl := sel_len L (us.take k) x3
            have hn5 : n5 ≤ 2000 := by rw [HN.out]; simp at hsl; omega
            clear HST hx3 hs hsl
            have hcc1 : ∀ j u, [Value.string s][j]? = some u → ((wr.alloc (.cells #[.int .i64 (x1 : Int), .int .i64 (-1), .bool x3] 63)).alloc (.cells #[.string s] 9)).cell? ((⟨wr.heap.size + 1, 0, none⟩ : Addr).add j) = some u := by
              have := cell_one_new (wr.alloc (.cells #[.int .i64 (x1 : Int), .int .i64 (-1), .bool x3] 63)) (.string s) 9
              rw [World.size_alloc] at this
              exact this
            have hcc2 : ∀ u ∈ [Value.string s], u.oneCell' = true := fun u hu => by simp at hu; subst hu; rfl
            have hcc3 : n5 + 1 ≤ maxLen := by unfold maxLen; omega
            have hcc4 : (n5 + 1) * 16 ≤ 140737488355328 := by omega
            have hsz := hB.size
            have hac2 : (wr.alloc (.cells #[.int .i64 (x1 : Int), .int .i64 (-1), .bool x3] 63)).cell? ⟨sa, oa + x1, none⟩ = some (.string s) := (World.cell?_of_block (w := wr) (a := ⟨sa, oa + x1, none⟩) (Below.heap_alloc _ _ _ (by show sa < _; omega))).trans hac'
            have hcc5 : w.heap.size ≤ ((wr.alloc (.cells #[.int .i64 (x1 : Int), .int .i64 (-1), .bool x3] 63)).alloc (.cells #[.string s] 9)).heap.size := by simp; omega
            have HG : Hid (OwnG wr w.heap.size g n5 c5 (selU L (us.take k) x3)) := hG
            have HR : Hid (wr.ownsRow w1.heap.size 63 3 (.slice (some ⟨gu, 0, none⟩) us.length cu) us.length (flatU us)) := hrow
            clear hG hrow
            go_wp2_with (at_builtin; refine wpList_append_own _ rfl _ _ 22 rfl w.heap.size 9 i0 (.string ⟨#[]⟩) 1 16 Tryz.underlying22 hi hz0 hz1 hz2 rfl (by decide) _ _ _ rfl (World.ownsRow.alloc (World.ownsRow.alloc HG.out _) _) ⟨wr.heap.size + 1, 0, none⟩ 1 1 [.string s] rfl rfl hcc1 hcc2 hcc3 hcc4 hcc5 ?_)
            intro v' w3 hown' hgrow _
            obtain ⟨g', c6, rfl⟩ := ownsRow_succ hown'
            have hG' : OwnG w3 w.heap.size g' (n5 + 1) c6 (selU L (us.take (k + 1)) x3) := by
              rw [HX.out]
              unfold OwnG
              rw [List.map_append]
              exact hown'
            have hB' : Below w.heap.size w w3 := ((hB.alloc hB.size (.cells #[.int .i64 (x1 : Int), .int .i64 (-1), .bool x3] 63)).alloc (by simp; omega) (.cells #[.string s] 9)).grown hgrow (by simp; omega) (fun k hk => (World.ownsRow.lt HG.out k hk).1)
            have hrow' : w3.ownsRow w1.heap.size 63 3 (.slice (some ⟨gu, 0, none⟩) us.length cu) us.length (flatU us) := own_kept HR.out (fun y hy => by
              have ey : y = gu := by simpa [Value.ownBlock] using hy.symm
              rw [ey, hgrow.block gu (by simp; omega) (fun e => hty e.symm), Below.heap_alloc _ _ _ (by simp; omega), Below.heap_alloc _ _ _ hgu.2])
            clear hown' hgrow hcc1 hcc2 hcc3 hcc4 hcc5
            go_wp2
            go_roundw
            case rel => exact ⟨k + 1, g', n5 + 1, c6, by go_num, rfl, by omega, by rw [HX.out, List.length_append, ← HN.out]; rfl, hG', hrow', hB'⟩
            case measure => simp [intOf]; omega
        · have bx2 : (x2 == -1) = false := by simpa using hx2
          have HX : Hid (selU L (us.take (k + 1)) q = selU L (us.take k) q) := (by rw [HST.out, bx2]; simp : selU L (us.take (k + 1)) q = selU L (us.take k) q)
          clear HST hx2
          have hrow' : (wr.alloc (.cells #[.int .i64 (x1 : Int), .int .i64 x2, .bool x3] 63)).ownsRow w1.heap.size 63 3 (.slice (some ⟨gu, 0, none⟩) us.length cu) us.length (flatU us) := World.ownsRow.alloc hrow _
          have hG' : OwnG (wr.alloc (.cells #[.int .i64 (x1 : Int), .int .i64 x2, .bool x3] 63)) w.heap.size g n5 c5 (selU L (us.take (k + 1)) q) := by rw [HX.out]; exact World.ownsRow.alloc hG _
          have hB' := hB.alloc hB.size (.cells #[.int .i64 (x1 : Int), .int .i64 x2, .bool x3] 63)
          clear hrow hG
          go_wp2
          go_roundw
          case rel => exact ⟨k + 1, g, n5, c5, by go_num, rfl, by omega, by rw [HX.out]; exact HN.out, hG', hrow', hB'⟩
          case measure => simp [intOf]; omega
      · have e1 : k = us.length := by omega
        subst e1
        rw [List.take_length] at hG HN
        rw [HSEL.out] at hG HN
        have HUU := HU.out
        generalize (if q then (findO L).sc else (findO L).fr) = X at hG HN HSEL HUU
        have hkk : ¬ (us.length : Int) < (us.length : Int) := by omega
        have hsl := sel_len L us q
        rw [HSEL.out] at hsl
        have hn5 : n5 ≤ 2000 := by rw [HN.out]; omega
        have hXl : (bts X).length = n5 := by rw [HN.out]; simp [bts]
        have hG2 : wr.ownsRow w.heap.size 9 1 (.slice (some ⟨g, 0, none⟩) n5 c5) n5 ((bts X).map encStr) := by
          rw [bts_string]
          exact hG
        obtain ⟨g', cap', hv', hbg, hgz, hncap, hcm, hlen, hH⟩ := Lib.holds_of_ownsRow hG2 (by intro e; cases e)
        injection hv' with ea _ ec
        injection ea with ea
        injection ea with eg _ _
        subst eg ec
        have HSO := Tryz.slices_Sort_string g 0 c5 (bts X) wr hH hgz (by omega)
        rw [hXl] at HSO
        have HSO' : Hid (Calls Tryz.prog 44 #[.slice (some ⟨g, 0, none⟩) n5 c5] wr fun e w' => e = .returned (.tuple #[]) ∧ ∃ n os, w' = grow (putRow encStr (Sort.ahead wr n) g 0 ((bts X).mergeSort fun x y => decide (x ≤ y)).toArray) os) := HSO
        have HGF : Hid (OwnG wr w.heap.size g n5 c5 X) := hG
        have HHH : Hid (Holds encStr wr g 0 (bts X).toArray) := hH
        clear HSO hH hG2 hG hrow HSEL hfd
        go_wp2_with fail
        refine HSO'.out.mono ?_
        rintro r w5 ⟨rfl, nn, os, rfl⟩
        have hl2 : ((bts X).mergeSort fun x y => decide (x ≤ y)).length = n5 := by rw [List.length_mergeSort]; exact hXl
        have hH2 : Holds encStr (grow (putRow encStr (Sort.ahead wr nn) g 0 ((bts X).mergeSort fun x y => decide (x ≤ y)).toArray) os) g 0 ((bts X).mergeSort fun x y => decide (x ≤ y)).toArray :=
          holds_grow encStr _ os g 0 _ (by simpa [putRow, mapBlock, Sort.ahead] using hgz) (holds_putRow encStr _ g 0 _ _ (holds_ahead encStr wr nn g 0 _ HHH.out) (by simp))
        have HCO := Tryz.slices_Compact_string g 0 c5 ((bts X).mergeSort fun x y => decide (x ≤ y)) _ hH2 (by omega) (by omega)
        rw [hl2] at HCO
        have HCO' : Hid (Calls Tryz.prog 45 #[.slice (some ⟨g, 0, none⟩) n5 c5] (grow (putRow encStr (Sort.ahead wr nn) g 0 ((bts X).mergeSort fun x y => decide (x ≤ y)).toArray) os) fun e w' => e = .returned (.slice (some ⟨g, 0, none⟩) (Lib.compact ((bts X).mergeSort fun x y => decide (x ≤ y))).length c5) ∧ ∃ q, w' = putRow encStr (Sort.ahead (grow (putRow encStr (Sort.ahead wr nn) g 0 ((bts X).mergeSort fun x y => decide (x ≤ y)).toArray) os) q) g 0 (Lib.compact ((bts X).mergeSort fun x y => decide (x ≤ y)) ++ List.replicate (n5 - (Lib.compact ((bts X).mergeSort fun x y => decide (x ≤ y))).length) []).toArray) := HCO
        have hlZ : (Lib.compact ((bts X).mergeSort fun x y => decide (x ≤ y))).length = (putAll [] X).length := by
          rw [← srtL_put]
          simp [srtL, unb]
        have HLZ : Hid ((Lib.compact ((bts X).mergeSort fun x y => decide (x ≤ y))).length = (putAll [] X).length) := hlZ
        clear HCO hH2 HSO' HHH hlZ hl2
        go_wp2_with fail
        refine HCO'.out.mono ?_
        rintro r w6 ⟨rfl, q', rfl⟩
        have HFIN := sorted_left (nn := nn) (q := q') (os := os) HGF.out HN.out hB
        obtain ⟨w6, hw6⟩ : ∃ w6, w6 = putRow encStr (Sort.ahead (grow (putRow encStr (Sort.ahead wr nn) g 0 ((bts X).mergeSort fun x y => decide (x ≤ y)).toArray) os) q') g 0 (Lib.compact ((bts X).mergeSort fun x y => decide (x ≤ y)) ++ List.replicate (n5 - (Lib.compact ((bts X).mergeSort fun x y => decide (x ≤ y))).length) []).toArray := ⟨_, rfl⟩
        rw [← hw6] at HFIN ⊢
        have HF' : Hid (OwnG w6 w.heap.size g (Lib.compact ((bts X).mergeSort fun x y => decide (x ≤ y))).length c5 (putAll [] X) ∧ Below w.heap.size w w6) := HFIN
        clear HFIN hw6 HCO'
        rw [HLZ.out] at HF' ⊢
        have HUL : Hid (unkE L q = putAll [] X) := HUU
        clear HUU
        obtain ⟨nz, hnz⟩ : ∃ nz, nz = (putAll [] X).length := ⟨_, rfl⟩
        rw [← hnz] at HF' ⊢
        have HNZ : Hid (nz = (putAll [] X).length) := hnz
        clear hnz HLZ
        go_wp2
        go_ret
        exact ⟨g, nz, c5, rfl, by rw [HUL.out]; exact HNZ.out, by rw [HUL.out]; exact HF'.out.1, HF'.out.2⟩

set_option maxHeartbeats 2000000 in
theorem freeInI_any (a : Option Addr) (cap : Nat) (L : List ByteArray) (w : World) (ht : Tab w) (h : ArgT w a L) (hL : L.length ≤ 1048576) :
    Calls Tryz.prog 15 #[.slice a L.length cap] w fun e w' => ∃ g n cp, e = .returned (.slice (some ⟨g, 0, none⟩) n cp) ∧ n = (unkE L false).length ∧ OwnG w' w.heap.size g n cp (unkE L false) ∧ Below w.heap.size w w' := by
  go_enter Tryz.func15, Tryz.ntmps15
  go_wp2_with fail
  refine (unknownIn_any a cap L false w ht h hL).mono ?_
  rintro r w1 ⟨g, n, cp, rfl, hn, hG, hB⟩
  have HN : Hid (n = (unkE L false).length) := hn
  clear hn
  go_wp2
  go_ret
  exact ⟨g, n, cp, rfl, HN.out, hG, hB⟩

set_option maxHeartbeats 2000000 in
theorem secretI_any (a : Option Addr) (cap : Nat) (L : List ByteArray) (w : World) (ht : Tab w) (h : ArgT w a L) (hL : L.length ≤ 1048576) :
    Calls Tryz.prog 17 #[.slice a L.length cap] w fun e w' => ∃ g n cp, e = .returned (.slice (some ⟨g, 0, none⟩) n cp) ∧ n = (unkE L true).length ∧ OwnG w' w.heap.size g n cp (unkE L true) ∧ Below w.heap.size w w' := by
  go_enter Tryz.func17, Tryz.ntmps17
  go_wp2_with fail
  refine (unknownIn_any a cap L true w ht h hL).mono ?_
  rintro r w1 ⟨g, n, cp, rfl, hn, hG, hB⟩
  have HN : Hid (n = (unkE L true).length) := hn
  clear hn
  go_wp2
  go_ret
  exact ⟨g, n, cp, rfl, HN.out, hG, hB⟩
end Go.Proofs.YtfmbakjphhlehaaGreatDoor

/-
  Chapter 5, the program: what a play declares.
-/
namespace Go.Proofs.YtfmbakjphhlehaaGreatDoor
open Go.RowKit

theorem rowI_app {wr w3 : World} {g g' : Nat} {tmp : Obj} {av : Option Addr} {X : List Int} (h : RowI (fun k => k = g) wr av X) (hg : (wr.alloc tmp).grownBy w3 (some g)) (hw : g' = g ∨ g' = (wr.alloc tmp).heap.size) : RowI (fun k => k = g') w3 av X := fun i hi => by
  obtain ⟨sb, off, h1, h2, h3, h4⟩ := h i hi
  have hz := hg.size
  rw [World.size_alloc] at hz hw
  refine ⟨sb, off, h1, by omega, ?_, ?_⟩
  · rcases hw with e | e
    · rw [e]; exact h3
    · omega
  · refine (World.cell?_of_block (w := wr) (a := ⟨sb, off + i, none⟩) ?_).trans h4
    rw [hg.block sb (by simp; omega) (fun e => h3 (by injection e)), Below.heap_alloc _ _ _ h2]
theorem RowN.one {B g : Nat} {w : World} {a : Option Addr} {X : List Int} (h : RowN B w a X) (hg : g < B) : RowI (fun k => k = g) w a X := fun i hi => by
  obtain ⟨sb, off, h1, h2, h3, h4⟩ := h i hi
  exact ⟨sb, off, h1, h2, by omega, h4⟩
theorem flat_take (L : List ByteArray) (X : List Int) {m : Nat} (h : m < X.length) : (X.take (m + 1)).flatMap (pieceD L false) = (X.take m).flatMap (pieceD L false) ++ pieceD L false X[m] := by
  rw [List.take_succ_eq_append_getElem h, List.flatMap_append]
  simp only [List.flatMap_cons, List.flatMap_nil, List.append_nil]
theorem flat_len {L : List ByteArray} {e : Int} : ∀ k i, chainD L k i e → 0 ≤ e → (((chainP L k i).flatMap (pieceD L false)).length : Int) ≤ e - i
  | 0, i, h, _ => by
    have : i = e := h
    show ((0 : Nat) : Int) ≤ e - i
    omega
  | k + 1, i, h, he => by
    have h1 := flat_len k _ h.2 he
    have h2 := piece_len (L := L) (i := i) false h.1
    have h3 := deed_long h.1
    have h5 := deed_item h.1
    rw [chainP_succ, List.flatMap_cons, List.length_append, h5]
    omega

/-- What it declares: nothing where it is no play. -/
def DecE (L : List ByteArray) (X : List ByteArray) : Prop := playB L = false ∧ X = [] ∨ playB L = true ∧ ∃ k, chainD L k 0 (L.length : Int) ∧ X = (chainP L k 0).flatMap (pieceD L false)

set_option maxRecDepth 100000 in
set_option maxHeartbeats 8000000 in
theorem declaredI_any (a : Option Addr) (cap : Nat) (L : List ByteArray) (w : World) (ht : Tab w) (h : ArgT w a L) (hL : L.length ≤ 1048576) :
    Calls Tryz.prog 10 #[.slice a L.length cap] w fun e w' => ∃ g n cp X, e = .returned (.slice (some ⟨g, 0, none⟩) n cp) ∧ n = X.length ∧ OwnG w' w.heap.size g n cp X ∧ Below w.heap.size w w' ∧ DecE L X := by
  have hB0 := balloc (Below.refl w.heap.size w) (.cells #[] 9)
  have HG0 : Hid (OwnG (w.alloc (.cells #[] 9)) w.heap.size w.heap.size 0 0 []) := World.ownsRow_made w #[] 0 (Nat.le_refl _) (Nat.zero_le _) rfl
  cases hp : playB L
  · have HP : Hid (playB L = false) := hp
    clear hp
    go_enter Tryz.func10, Tryz.ntmps10
    go_wp2_with fail
    refine (playOkI_any a cap L _ (tab_call ht hB0) (h.call hB0) hL).mono ?_
    rintro e w1 ⟨rfl, hb1⟩
    rw [HP.out]
    have hB1 := bstep hB0 hb1
    have HG1 : Hid (OwnG w1 w.heap.size w.heap.size 0 0 []) := own_kept HG0.out (fun g hg => hb1.block g (World.ownsRow.lt HG0.out g hg).2)
    go_wp2
    go_ret
    exact ⟨_, _, _, [], rfl, rfl, HG1.out, hB1, Or.inl ⟨HP.out, rfl⟩⟩
  · have HP : Hid (playB L = true) := hp
    obtain ⟨i0, hi, hz0, hz1, hz2⟩ := info_parts infoT
    have hl2 := play_len' hp
    have hsg := play_signs hp
    obtain ⟨k, hch⟩ := play_deeds hp
    have hcI := chI_V k 0 (chain_deeds k 0 hch).1
    have HDO : Hid (∀ W, ArgT W a L → Calls Tryz.prog 23 #[.slice a L.length cap] W fun e W' => ∃ v, e = .returned v ∧ OwnI W' W.heap.size v (chainP L k 0) ∧ Below W.heap.size W W') := fun W hA => deedsOf_any a cap L k (by omega) hsg hcI W hA
    have HDL : Hid (∀ p ∈ chainP L k 0, fm L 1 p ≠ -1) := chain_dl k 0 hch
    have HRES : Hid (∃ k', chainD L k' 0 (L.length : Int) ∧ (chainP L k 0).flatMap (pieceD L false) = (chainP L k' 0).flatMap (pieceD L false)) := ⟨k, hch, rfl⟩
    have hfl := flat_len k 0 hch (by omega)
    have hkl := chP_len L k 0
    have hke := chI_ends k 0 hcI (by omega)
    obtain ⟨X, hX⟩ : ∃ X, X = chainP L k 0 := ⟨_, rfl⟩
    rw [← hX] at HDO HDL HRES hfl hkl
    clear hX hch hcI hp
    go_enter Tryz.func10, Tryz.ntmps10
    go_wp2_with fail
    refine (playOkI_any a cap L _ (tab_call ht hB0) (h.call hB0) hL).mono ?_
    rintro e w1 ⟨rfl, hb1⟩
    rw [HP.out]
    have hB1 := bstep hB0 hb1
    have HG1 : Hid (OwnG w1 w.heap.size w.heap.size 0 0 []) := own_kept HG0.out (fun g hg => hb1.block g (World.ownsRow.lt HG0.out g hg).2)
    have hz1' : w.heap.size < w1.heap.size := (World.ownsRow.lt HG1.out w.heap.size rfl).2
    go_wp2_with fail
    refine (HDO.out _ (h.call hB1)).mono ?_
    rintro r w2 ⟨vd, rfl, hOd, hb2⟩
    have hB2 := bstep hB1 hb2
    have HG2 : Hid (OwnG w2 w.heap.size w.heap.size 0 0 []) := own_kept HG1.out (fun g hg => hb2.block g (World.ownsRow.lt HG1.out g hg).2)
    obtain ⟨avd, cvd, rfl, hcvd, hRd⟩ := hOd.rowN
    have hRd1 := hRd.one hz1'
    rw [hkl] at hcvd ⊢
    clear HDO HG0 HG1 hB0 hB1 hb1 hb2 hOd hRd
    go_wp2
    go_loopw [3, 18] (fun v3 v18 wr => ∃ (m g n5 c5 : Nat), v18 = .int .i64 (m : Int) ∧ v3 = .slice (some ⟨g, 0, none⟩) n5 c5 ∧ m ≤ k ∧ Hid (n5 = ((X.take m).flatMap (pieceD L false)).length) ∧ OwnG wr w.heap.size g n5 c5 ((X.take m).flatMap (pieceD L false)) ∧ RowI (fun k => k = g) wr avd X ∧ Below w.heap.size w wr) (fun _ v18 _ => k - (intOf v18).toNat)
    case atStart => exact ⟨0, _, 0, 0, rfl, rfl, Nat.zero_le _, rfl, HG2.out, hRd1, hB2⟩
    case round =>
      clear HG2 hRd1 hB2
      obtain ⟨m, g, n5, c5, rfl, rfl, hm, HN, hG, hRd, hB⟩ := hrel
      by_cases hlt : m < k
      · have hmX : m < X.length := by omega
        obtain ⟨sd, od, rfl, hsd, _, hdc⟩ := hRd m hmX
        have hdl := HDL.out _ (List.getElem_mem hmX)
        obtain ⟨hpn, hpb⟩ := plcD_piece hdl
        have hlong := deed_long hdl
        have HFT := flat_take L X hmX
        have HFT' : Hid ((X.take (m + 1)).flatMap (pieceD L false) = (X.take m).flatMap (pieceD L false) ++ pieceD L false X[m]) := HFT
        have HPN : Hid ((plcD L X[m]).map (sgAt L) = pieceD L (hidB L X[m]) X[m]) := hpn
        have HNO : Hid (hidB L X[m] = true → pieceD L false X[m] = []) := fun hh => piece_was hh
        have hYl : (plcD L X[m]).length ≤ 2000 := by
          have e1 : (plcD L X[m]).length = (pieceD L (hidB L X[m]) X[m]).length := by rw [← hpn, List.length_map]
          have e2 := piece_len (hidB L X[m]) hdl
          omega
        have hXm : ((X.take (m + 1)).flatMap (pieceD L false)).length ≤ 2000 := by
          have e1 : X.flatMap (pieceD L false) = (X.take (m + 1)).flatMap (pieceD L false) ++ (X.drop (m + 1)).flatMap (pieceD L false) := by rw [← List.flatMap_append, List.take_append_drop]
          rw [e1, List.length_append] at hfl
          omega
        have HDB : Hid (∀ W, ArgT W a L → Calls Tryz.prog 24 #[.slice a L.length cap, .int .i64 X[m]] W fun r W' => ∃ av n cv, r = .returned (.tuple #[.slice av n cv, .bool (hidB L X[m])]) ∧ n = (plcD L X[m]).length ∧ RowN W.heap.size W' av (plcD L X[m]) ∧ Below W.heap.size W W') := fun W hA => declaredBy_any _ cap L _ (by omega) hsg hdl W hA
        rw [HFT'.out, List.length_append] at hXm
        clear hpn hdl HFT
        generalize X[m] = p at hdc hpb hlong HFT' HPN HNO hYl hXm HDB
        have hmk : (m : Int) < (k : Int) := by omega
        have hgz := (World.ownsRow.lt hG g rfl).2
        go_wp2_with fail
        refine (HDB.out _ (h.call hB)).mono ?_
        rintro r w3 ⟨avn, nn, cvn, rfl, hnn, hRn, hb3⟩
        have hB3 := hB.trans (hb3.mono hB.size)
        have HG3 : OwnG w3 w.heap.size g n5 c5 ((X.take m).flatMap (pieceD L false)) := own_kept hG (fun g hg => hb3.block g (World.ownsRow.lt hG g hg).2)
        have hRd3 := hRd.call hb3
        have hRn3 := hRn.one hgz
        have HNN : Hid (nn = (plcD L p).length) := hnn
        have hNb : ∀ y ∈ plcD L p, 0 ≤ y ∧ y < (L.length : Int) := fun y hy => by have := hpb y hy; omega
        clear hG hRd hB hb3 hRn hnn HDB
        generalize hidB L p = q at HPN HNO ⊢
        generalize plcD L p = Y at HPN HNN hRn3 hNb hYl
        cases q
        · have HPN' : Hid (Y.map (sgAt L) = pieceD L false p) := HPN.out
          have hYp : Y.length = (pieceD L false p).length := by rw [← HPN'.out, List.length_map]
          have hn5 : n5 + Y.length ≤ 2000 := by rw [HN.out, hYp]; exact hXm
          have HN5 : Hid (n5 = ((X.take m).flatMap (pieceD L false)).length) := HN.out
          obtain ⟨Z, hZ⟩ : ∃ Z, Z = (X.take m).flatMap (pieceD L false) := ⟨_, rfl⟩
          rw [← hZ] at HG3 HN5 HFT'
          clear HN hYp hXm HNO HPN hZ
          go_wp2
          go_loopw [3, 30] (fun v3 v30 wr => ∃ (t g' n6 c6 : Nat), v30 = .int .i64 (t : Int) ∧ v3 = .slice (some ⟨g', 0, none⟩) n6 c6 ∧ t ≤ Y.length ∧ n6 = n5 + t ∧ OwnG wr w.heap.size g' n6 c6 (Z ++ (Y.map (sgAt L)).take t) ∧ RowI (fun k => k = g') wr (some ⟨sd, od, none⟩) X ∧ RowI (fun k => k = g') wr avn Y ∧ Below w.heap.size w wr) (fun _ v30 _ => Y.length - (intOf v30).toNat)
          case atStart => exact ⟨0, g, n5, c5, rfl, rfl, Nat.zero_le _, rfl, by rw [List.take_zero, List.append_nil]; exact HG3, hRd3, hRn3, hB3⟩
          case round =>
            clear HG3 hRd3 hRn3 hB3
            obtain ⟨t, g', n6, c6, rfl, rfl, ht', hn6, hG4, hRd4, hRn4, hB4⟩ := hrel
            by_cases htl : t < Y.length
            · obtain ⟨sy, oy, rfl, hsy, _, hcy⟩ := hRn4 t htl
              obtain ⟨y0, y1⟩ := hNb _ (List.getElem_mem htl)
              have HTK : Hid ((Y.map (sgAt L)).take (t + 1) = (Y.map (sgAt L)).take t ++ [sgAt L Y[t]]) := by
                have := List.take_succ_eq_append_getElem (l := Y.map (sgAt L)) (i := t) (by simpa using htl)
                rw [List.getElem_map] at this
                exact this
              generalize Y[t] = y at hcy y0 y1 HTK
              obtain ⟨yy, rfl⟩ : ∃ yy : Nat, y = (yy : Int) := ⟨y.toNat, by omega⟩
              obtain ⟨sa, oa, rfl, hsa, hac, ham⟩ := h yy (by omega)
              have hac' := (hB4.cell (p := ⟨sa, oa + yy, none⟩) hsa).trans hac
              have hsg' : sgAt L (yy : Int) = L[yy] := by rw [sgAt_in (by omega) (by omega)]; rfl
              rw [← hsg'] at hac' ham
              have htn : (t : Int) < (nn : Int) := by rw [HNN.out]; omega
              have hn62 : n6 + 1 ≤ 2000 := by omega
              have HN6 : Hid (n6 = n5 + t) := hn6
              clear hac hsg' hn6
              generalize sgAt L (yy : Int) = s at hac' ham HTK
              have hcc2 : ∀ u ∈ [Value.string s], u.oneCell' = true := fun u hu => by simp at hu; subst hu; rfl
              have hcc3 : n6 + 1 ≤ maxLen := by unfold maxLen; omega
              have hcc4 : (n6 + 1) * 16 ≤ 140737488355328 := by omega
              have hsz := hB4.size
              have hcc5 : w.heap.size ≤ (wr.alloc (.cells #[.string s] 9)).heap.size := by simp; omega
              obtain ⟨Q, hQ⟩ : ∃ Q, Q = Z ++ (Y.map (sgAt L)).take t := ⟨_, rfl⟩
              have HQ : Hid (Q = Z ++ (Y.map (sgAt L)).take t) := hQ
              rw [← hQ] at hG4
              have HG : Hid (OwnG wr w.heap.size g' n6 c6 Q) := hG4
              clear hG4 hQ
              go_wp2_with (at_builtin; refine wpList_append_at _ rfl _ _ 22 rfl w.heap.size 9 i0 (.string ⟨#[]⟩) 1 16 Tryz.underlying22 hi hz0 hz1 hz2 rfl (by decide) _ _ _ rfl (World.ownsRow.alloc HG.out _) ⟨wr.heap.size, 0, none⟩ 1 1 [.string s] rfl rfl (cell_one_new _ _ _) hcc2 hcc3 hcc4 hcc5 ?_)
              intro v' w5 hown' hgrow hwh
              obtain ⟨g5, c7, rfl⟩ := ownsRow_succ hown'
              have hw5 : g5 = g' ∨ g5 = (wr.alloc (.cells #[.string s] 9)).heap.size := by
                rcases hwh g5 rfl with e | e
                · left; simpa [Value.ownBlock] using e.symm
                · right; rw [World.size_alloc]; exact e
              have hG5 : OwnG w5 w.heap.size g5 (n6 + 1) c7 (Z ++ (Y.map (sgAt L)).take (t + 1)) := by
                rw [HTK.out, ← List.append_assoc, ← HQ.out]
                unfold OwnG
                rw [List.map_append]
                exact hown'
              have hRd5 := rowI_app hRd4 hgrow hw5
              have hRn5 := rowI_app hRn4 hgrow hw5
              have hB5 : Below w.heap.size w w5 := (hB4.alloc hB4.size (.cells #[.string s] 9)).grown hgrow (by simp; omega) (fun k hk => (World.ownsRow.lt HG.out k hk).1)
              clear hown' hgrow hwh hw5 hRd4 hRn4 hcc2 hcc3 hcc4 hcc5
              go_wp2
              go_roundw
              case rel => exact ⟨t + 1, g5, n6 + 1, c7, by go_num, rfl, by omega, by rw [HN6.out]; omega, hG5, hRd5, hRn5, hB5⟩
              case measure => simp [intOf]; omega
            · have e1 : t = Y.length := by omega
              have HG5 : Hid (OwnG wr w.heap.size g' n6 c6 ((X.take (m + 1)).flatMap (pieceD L false))) := by
                rw [e1, List.take_of_length_le (by simp), HPN'.out, ← HFT'.out] at hG4
                exact hG4
              have HN6 : Hid (n6 = ((X.take (m + 1)).flatMap (pieceD L false)).length) := by
                show n6 = ((X.take (m + 1)).flatMap (pieceD L false)).length
                rw [HFT'.out, List.length_append, ← HPN'.out, List.length_map, ← HN5.out]
                omega
              have htn : ¬ (t : Int) < (nn : Int) := by rw [HNN.out]; omega
              clear hG4 hn6 e1
              go_wp2
              go_roundw
              case rel => exact ⟨m + 1, g', n6, c6, by go_num, rfl, by omega, HN6.out, HG5.out, hRd4, hB4⟩
              case measure => simp [intOf]; omega
        · have HFT2 : Hid ((X.take (m + 1)).flatMap (pieceD L false) = (X.take m).flatMap (pieceD L false)) := (by rw [HFT'.out, HNO.out rfl, List.append_nil] : (X.take (m + 1)).flatMap (pieceD L false) = (X.take m).flatMap (pieceD L false))
          clear HFT' HNO HPN hXm
          go_wp2
          go_loopw [3, 30] (fun v3 v30 wr => ∃ (t : Nat), v30 = .int .i64 (t : Int) ∧ v3 = .slice (some ⟨g, 0, none⟩) n5 c5 ∧ t ≤ Y.length ∧ Hid (w3 = wr)) (fun _ v30 _ => Y.length - (intOf v30).toNat)
          case atStart => exact ⟨0, rfl, rfl, Nat.zero_le _, rfl⟩
          case round =>
            obtain ⟨t, rfl, rfl, ht', hw3⟩ := hrel
            have hw3' : w3 = wr := hw3
            subst hw3'
            by_cases htl : t < Y.length
            · obtain ⟨sy, oy, rfl, hsy, _, hcy⟩ := hRn3 t htl
              have htn : (t : Int) < (nn : Int) := by rw [HNN.out]; omega
              go_wp2
              go_roundw
              case rel => exact ⟨t + 1, by go_num, rfl, by omega, by first | exact hw3 | exact (trivial : True)⟩
              case measure => simp [intOf]; omega
            · have htn : ¬ (t : Int) < (nn : Int) := by rw [HNN.out]; omega
              go_wp2
              go_roundw
              case rel => exact ⟨m + 1, g, n5, c5, by go_num, rfl, by omega, by rw [HFT2.out]; exact HN.out, by rw [HFT2.out]; exact HG3, hRd3, hB3⟩
              case measure => simp [intOf]; omega
      · have e1 : m = k := by omega
        subst e1
        have hX : X.take m = X := List.take_of_length_le (by omega)
        rw [hX] at hG HN
        have hmk : ¬ (m : Int) < (m : Int) := by omega
        clear hX hRd
        go_wp2
        go_ret
        exact ⟨g, n5, c5, rfl, X.flatMap (pieceD L false), HN.out, hG, hB, Or.inr ⟨HP.out, HRES.out⟩⟩
end Go.Proofs.YtfmbakjphhlehaaGreatDoor

/-
  Small facts for the laws of Declared, FreeIn, Secret.
-/
namespace Go.Proofs.YtfmbakjphhlehaaGreatDoor
open Go.RowKit

theorem OwnG.row {w : World} {B g n cp : Nat} {X : List ByteArray} (h : OwnG w B g n cp X) : RowT w g X ∧ B ≤ g := by
  have hl := World.ownsRow.lt h g rfl
  refine ⟨⟨hl.2, fun i hi => ⟨?_, World.ownsRow.frozenAt h i⟩⟩, hl.1⟩
  have hc := World.ownsRow.cells h (g := g) rfl i (.string X[i]) (by simp [hi])
  have hadd : (⟨g, 0, none⟩ : Addr).add i = ⟨g, i, none⟩ := by unfold Addr.add; split <;> simp_all
  rwa [hadd] at hc
theorem OwnN.own {w : World} {B : Nat} {v : Value} {X : List ByteArray} (h : OwnN w B v X) : ∃ g cp, v = .slice (some ⟨g, 0, none⟩) X.length cp ∧ OwnG w B g X.length cp X := by
  obtain ⟨g, cp, rfl⟩ := h.shape
  exact ⟨g, cp, rfl, h.1⟩
theorem isT_row {w : World} {g cp : Nat} {X : List ByteArray} (h : RowT w g X) : IsT w 0 (.slice (some ⟨g, 0, none⟩) X.length cp) X := by
  by_cases hX : X = []
  · left
    subst hX
    exact ⟨rfl, _, _, rfl⟩
  · exact Or.inr ⟨hX, g, cp, rfl, Nat.zero_le _, h⟩
theorem free_same (L : List ByteArray) : unkE L false = freeE L := rfl
theorem secr_same (L : List ByteArray) : unkE L true = secrE L := rfl
theorem unk_short (L : List ByteArray) (q : Bool) : (unkE L q).length ≤ 2000 := by
  cases hp : playB L
  · unfold unkE
    rw [hp]
    exact Nat.zero_le _
  · have h := fnd_short hp
    have e : unkE L q = if q then (fndO L).sc else (fndO L).fr := by
      unfold unkE
      rw [hp]
      cases q <;> rfl
    rw [e]
    cases q
    · exact h.1
    · exact h.2
theorem dec_same {L X : List ByteArray} (h : playB L = false ∧ X = [] ∨ playB L = true ∧ ∃ k, chainD L k 0 (L.length : Int) ∧ X = dcl L false k 0) {Y : List ByteArray} (h' : DecE L Y) : Y = X ∧ X.length ≤ 2000 := by
  rcases h with ⟨hp, rfl⟩ | ⟨hp, k, hk, rfl⟩
  · rcases h' with ⟨_, rfl⟩ | ⟨hp', _⟩
    · exact ⟨rfl, Nat.zero_le _⟩
    · rw [hp] at hp'; cases hp'
  · rcases h' with ⟨hp', _⟩ | ⟨_, k', hk', rfl⟩
    · rw [hp] at hp'; cases hp'
    · have he : itemE L (L.length : Int) = -1 := itemE_none (Or.inr (Or.inl (Int.le_refl _)))
      obtain ⟨e, _⟩ := chI_one _ _ _ (chI_V k 0 (chain_deeds k 0 hk).1) (chI_V k' 0 (chain_deeds k' 0 hk').1) he he
      subst e
      have hl := flat_len k 0 hk (by omega)
      have h2 := play_len' hp
      rw [dcl_flat L false k 0 hk]
      exact ⟨rfl, by omega⟩

end Go.Proofs.YtfmbakjphhlehaaGreatDoor
