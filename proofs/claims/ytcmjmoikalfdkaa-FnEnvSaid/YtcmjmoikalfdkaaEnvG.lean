/-
  Chapter 9, the model's draws as the law calls them.
-/
import Derived.Test.YtcmjmoikalfdkaaEnvD
import Derived.Test.YtcmjmoikalfdkaaListC
namespace Go.Proofs.Ytcmjmoikalfdkaa
open Go.RowKit

/-- Texts in memory of the call's own. -/
def OwnQ (w : World) (B g n cp : Nat) (T : List ByteArray) : Prop := w.ownsRow B 9 1 (.slice (some ⟨g, 0, none⟩) n cp) n (T.map Value.string)
theorem OwnQ.row {w : World} {B g n cp : Nat} {T : List ByteArray} (h : OwnQ w B g n cp T) : RowT w g T ∧ B ≤ g := by
  have hl := World.ownsRow.lt h g rfl
  refine ⟨⟨hl.2, fun i hi => ⟨?_, World.ownsRow.frozenAt h i⟩⟩, hl.1⟩
  have hc := World.ownsRow.cells h (g := g) rfl i (.string T[i]) (by simp [hi])
  rwa [add_zero_plain] at hc
theorem OwnQ.len {w : World} {B g n cp : Nat} {T : List ByteArray} (h : OwnQ w B g n cp T) : n = T.length := by
  have h1 := h.1
  simp at h1
  omega
theorem ownQ_new (w : World) (B : Nat) (h : B ≤ w.heap.size) : OwnQ (w.alloc (.cells #[] 9)) B w.heap.size 0 0 [] :=
  World.ownsRow_made w #[] 0 h (by unfold maxLen; omega) rfl
theorem OwnQ.but {c : Nat} {w w' : World} {B g n cp : Nat} {T : List ByteArray} (h : OwnQ w B g n cp T) (hb : But c w w') (hn : g ≠ c) : OwnQ w' B g n cp T :=
  own_kept h (fun k hk => by
    simp [Value.ownBlock] at hk
    subst hk
    exact hb.2.2.2.2 g (World.ownsRow.lt h g rfl).2 hn)
theorem RowF.but' {c : Nat} {w w' : World} {g : Nat} {C : List Value} (h : RowF w g C) (hb : But c w w') (hn : g ≠ c) : RowF w' g C :=
  ⟨Nat.lt_of_lt_of_le h.1 hb.2.2.2.1, fun i hi => ⟨(hb.cell g i h.1 hn).trans (h.2 i hi).1, (hb.frozen g i h.1 hn).trans (h.2 i hi).2⟩⟩
/-- While names are drawn: the cursor, what has not turned, the names so far, the Binds. -/
structure DN (c : Nat) (a : Option Addr) (len cap : Nat) (w0 : World) (g n cp : Nat) (T : List ByteArray) (ge : Nat) (X : List Bd) (y : World) : Prop where
  cur : Cur c a len cap y
  but : But c w0 y
  own : OwnQ y w0.heap.size g n cp T
  env : RowF y ge (X.flatMap bC)
  lt : c < w0.heap.size
  elt : ge < w0.heap.size
  ne : ge ≠ c
section
variable {c : Nat} {a : Option Addr} {len cap : Nat} {w0 : World} {g n cp : Nat} {T : List ByteArray} {ge : Nat} {X : List Bd} {y y1 : World}
theorem DN.gc (h : DN c a len cap w0 g n cp T ge X y) : g ≠ c := by
  have := h.own.row.2
  have := h.lt
  omega
theorem DN.alloc (h : DN c a len cap w0 g n cp T ge X y) (o : Obj) : DN c a len cap w0 g n cp T ge X (y.alloc o) := ⟨h.cur.alloc o, h.but.alloc o, World.ownsRow.alloc h.own o, rowF_alloc h.env o, h.lt, h.elt, h.ne⟩
theorem DN.call (h : DN c a len cap w0 g n cp T ge X y) (hb : But c y y1) (hc : Cur c a len cap y1) : DN c a len cap w0 g n cp T ge X y1 := ⟨hc, h.but.call hb, h.own.but hb h.gc, h.env.but' hb h.ne, h.lt, h.elt, h.ne⟩
/-- One name more. -/
theorem DN.more (h : DN c a len cap w0 g n cp T ge X y) (t : ByteArray) {v' : Value} {w4 : World} (ho : w4.ownsRow w0.heap.size 9 1 v' (n + 1) (T.map Value.string ++ [.string t])) (hg : (y.alloc (.cells #[.string t] 9)).grownBy w4 (Value.slice (some ⟨g, 0, none⟩) n cp).ownBlock) (hne : v' ≠ .slice none 0 0) :
    ∃ g5 c5, v' = .slice (some ⟨g5, 0, none⟩) (n + 1) c5 ∧ DN c a len cap w0 g5 (n + 1) c5 (T ++ [t]) ge X w4 := by
  have hne2 := h.gc
  have hcb := h.cur.lt
  have hge := h.own.row.2
  have hlt := h.lt
  have hel := h.elt
  have hB4 : Below w0.heap.size y w4 := by
    have h0 : Below w0.heap.size y (y.alloc (.cells #[.string t] 9)) := Below.alloc (Below.refl _ _) h.but.2.2.2.1 _
    refine h0.grown hg (by have := h.but.2.2.2.1; simp; omega) (fun k hk => ?_)
    simp [Value.ownBlock] at hk
    omega
  rcases id ho.2 with ⟨e, _⟩ | ⟨g5, c5, cur, e, _⟩
  · exact absurd e hne
  · refine ⟨g5, c5, e, h.cur.low (hB4.mono (by omega)), ?_, ?_, ?_, h.lt, h.elt, h.ne⟩
    · refine (h.but.alloc _).grownB hg (fun k hk => ?_)
      simp [Value.ownBlock] at hk
      omega
    · unfold OwnQ
      rw [List.map_append, ← e]
      exact ho
    · exact ⟨Nat.lt_of_lt_of_le h.env.1 hB4.size, fun i hi => ⟨(hB4.cell (p := ⟨ge, i, none⟩) hel).trans (h.env.2 i hi).1, (hB4.frozen (p := ⟨ge, i, none⟩) hel).trans (h.env.2 i hi).2⟩⟩
end
theorem tx_new (W : World) (t : ByteArray) : ∀ j u, [Value.string t][j]? = some u → (W.alloc (.cells #[.string t] 9)).cell? ((⟨W.heap.size, 0, none⟩ : Addr).add j) = some u := fun j u hj => by
  rw [add_zero_plain, cell_new]
  match j, hj with
  | 0, hj => exact hj
theorem tx_one (t : ByteArray) : ∀ u ∈ [Value.string t], u.oneCell' = true := fun u hu => by simp at hu; subst hu; rfl

theorem infoTx : (Try.prog.info? 9).map (fun i => (i.zero, i.size, i.bytes)) = some (some (.string ⟨#[]⟩), 1, 16) := by kernel_rfl

/-- The three names. -/
theorem xyz_at (k : Nat) (hk : k < 3) : ∃ t : ByteArray, (#[.string ⟨#[120]⟩, .string ⟨#[121]⟩, .string ⟨#[122]⟩] : Array Value)[k]? = some (.string t) ∧ t.size ≤ 10 := by
  match k, hk with
  | 0, _ => exact ⟨_, rfl, by decide⟩
  | 1, _ => exact ⟨_, rfl, by decide⟩
  | 2, _ => exact ⟨_, rfl, by decide⟩
theorem xypq_at (k : Nat) (hk : k < 4) : ∃ t : ByteArray, (#[.string ⟨#[120]⟩, .string ⟨#[121]⟩, .string ⟨#[112]⟩, .string ⟨#[113]⟩] : Array Value)[k]? = some (.string t) ∧ t.size ≤ 10 := by
  match k, hk with
  | 0, _ => exact ⟨_, rfl, by decide⟩
  | 1, _ => exact ⟨_, rfl, by decide⟩
  | 2, _ => exact ⟨_, rfl, by decide⟩
  | 3, _ => exact ⟨_, rfl, by decide⟩

set_option maxRecDepth 100000 in
set_option maxHeartbeats 4000000 in
theorem drawLooked_any (a : Option Addr) (len cap : Nat) (w : World) (hcode : Code w.heap.size a len w) (hlen : len ≤ 4096) :
    Calls Try.prog 40 #[.slice a len cap] w fun e w' => ∃ (g cp : Nat) (X : List Bd) (t : ByteArray) (s : Bool), e = .returned (.tuple #[.slice (some ⟨g, 0, none⟩) X.length cp, .string t, .bool s]) ∧ RowF w' g (X.flatMap bC) ∧ w.heap.size ≤ g ∧ (∀ x ∈ X, okBd x) ∧ X.length ≤ 500 ∧ Below w.heap.size w w' := by
  have hml : len ≤ maxLen := by unfold maxLen; omega
  go_enter Try.func40, Try.ntmps40
  go_wp2_with fail
  refine (l1New_any a len cap _ hcode hlen).mono ?_
  rintro e w1 ⟨rfl, hb1, hc1⟩
  go_wp2_with fail
  refine (l9Draw_any _ a len cap _ hc1 hml).mono ?_
  rintro e w2 ⟨g, n, cp, X, rfl, hO2, hok, hl, hb2, hc2⟩
  have hn := hO2.len
  subst hn
  obtain ⟨hr2, hg2⟩ := hO2.row
  have hw1 := hb1.size
  have hcz := hc1.lt
  have hB2 := But.below hb1 (Nat.le_refl _) hb2
  have hlit : ∀ k1 t, (#[.string ⟨#[120]⟩, .string ⟨#[121]⟩, .string ⟨#[112]⟩, .string ⟨#[113]⟩] : Array Value)[k1]? = some (.string t) → (w2.alloc (.cells #[.string ⟨#[120]⟩, .string ⟨#[121]⟩, .string ⟨#[112]⟩, .string ⟨#[113]⟩] 9)).cell? ⟨w2.heap.size, k1, none⟩ = some (.string t) := fun k1 t hA => (cell_new w2 _ 9 k1).trans hA
  clear hO2 hb1 hb2
  go_wp2_with fail
  refine (l1Below_any _ a len cap 4 _ (hc2.alloc _) hml (by decide) (by decide)).mono ?_
  rintro e w3 ⟨x, rfl, hx0, hx1, hb3, hc3⟩
  obtain ⟨k1, rfl⟩ : ∃ k : Nat, x = (k : Int) := ⟨x.toNat, by omega⟩
  obtain ⟨t, hA, hts⟩ := xypq_at k1 (by omega)
  have hcz2 := hc2.lt
  have hcell := (hb3.cell w2.heap.size k1 (by simp) (by omega)).trans (hlit k1 t hA)
  have hB3 := But.below hB2 (Nat.le_refl _) ((But.refl w.heap.size w2).alloc (.cells #[.string ⟨#[120]⟩, .string ⟨#[121]⟩, .string ⟨#[112]⟩, .string ⟨#[113]⟩] 9) |>.call hb3)
  have hr3 := (rowF_alloc hr2 (.cells #[.string ⟨#[120]⟩, .string ⟨#[121]⟩, .string ⟨#[112]⟩, .string ⟨#[113]⟩] 9)).but' hb3 (by omega)
  clear hlit hb3 hr2 hB2 hA
  go_wp2_with fail
  refine (l1Once_any _ a len cap 3 _ hc3 hml (by decide) (by decide)).mono ?_
  rintro e w4 ⟨b, rfl, hb4, hc4⟩
  have hB4 := But.below hB3 (Nat.le_refl _) hb4
  have hr4 := hr3.but' hb4 (by omega)
  clear hb4 hr3 hB3 hcell
  go_wp2
  refine bodyPost_ret (v := .tuple #[.slice (some ⟨g, 0, none⟩) X.length cp, .string t, .bool b]) (by simp [results, Try.results40, go_sem]) rfl ?_
  exact ⟨g, cp, X, t, b, rfl, hr4, by omega, hok, hl, hB4⟩

set_option maxRecDepth 100000 in
set_option maxHeartbeats 4000000 in
theorem drawBound_any (a : Option Addr) (len cap : Nat) (w : World) (hcode : Code w.heap.size a len w) (hlen : len ≤ 4096) :
    Calls Try.prog 38 #[.slice a len cap] w fun e w' => ∃ (g cp : Nat) (X : List Bd) (g2 c2 : Nat) (T : List ByteArray) (s : Bool) (f : Int), e = .returned (.tuple #[.slice (some ⟨g, 0, none⟩) X.length cp, .slice (some ⟨g2, 0, none⟩) T.length c2, .bool s, .int .i64 f]) ∧ RowF w' g (X.flatMap bC) ∧ w.heap.size ≤ g ∧ (∀ x ∈ X, okBd x) ∧ X.length ≤ 500 ∧ RowT w' g2 T ∧ w.heap.size ≤ g2 ∧ (∀ i (h : i < T.length), T[i].size ≤ maxLen) ∧ T.length ≤ 10 ∧ T.length ≤ c2 ∧ c2 ≤ maxLen ∧ -1 ≤ f ∧ f ≤ 5 ∧ Below w.heap.size w w' := by
  obtain ⟨i0, hi, hz0, hz1, hz2⟩ := info_parts infoTx
  have hml : len ≤ maxLen := by unfold maxLen; omega
  go_enter Try.func38, Try.ntmps38
  go_wp2_with fail
  refine (l1New_any a len cap _ hcode hlen).mono ?_
  rintro e w1 ⟨rfl, hb1, hc1⟩
  go_wp2_with fail
  refine (l9Draw_any _ a len cap _ hc1 hml).mono ?_
  rintro e w2 ⟨g, n, cp, X, rfl, hO2, hok, hl, hb2, hc2⟩
  have hn := hO2.len
  subst hn
  obtain ⟨hr2, hg2⟩ := hO2.row
  have hw1 := hb1.size
  have hcz := hc1.lt
  have hB2 := But.below hb1 (Nat.le_refl _) hb2
  have hcz2 := hc2.lt
  have hS0 : DN w.heap.size a len cap w2 w2.heap.size 0 0 [] g X (w2.alloc (.cells #[] 9)) := ⟨hc2.alloc _, (But.refl _ w2).alloc _, ownQ_new w2 _ (Nat.le_refl _), rowF_alloc hr2 _, hcz2, hr2.1, by omega⟩
  clear hO2 hb1 hb2
  go_wp2_with fail
  refine (l1Below_any _ a len cap 4 _ hS0.cur hml (by decide) (by decide)).mono ?_
  rintro e w3 ⟨x, rfl, hx0, hx1, hb3, hc3⟩
  have hS3 := hS0.call hb3 hc3
  clear hb3 hc3 hS0
  obtain ⟨m, rfl⟩ : ∃ m : Nat, x = (m : Int) := ⟨x.toNat, by omega⟩
  go_wp2
  go_loopw [8, 9] (fun v8 v9 wr => ∃ (k q n c2 : Nat) (T : List ByteArray), v9 = .int .i64 (k : Int) ∧ n + k ≤ 4 ∧ v8 = .slice (some ⟨q, 0, none⟩) n c2 ∧ DN w.heap.size a len cap w2 q n c2 T g X wr ∧ Hid (∀ i (h : i < T.length), T[i].size ≤ maxLen)) (fun _ v9 _ => (intOf v9).toNat)
  case atStart => exact ⟨m, w2.heap.size, 0, 0, [], rfl, by omega, rfl, hS3, fun i hi => absurd hi (Nat.not_lt_zero _)⟩
  case round =>
    obtain ⟨k, q, n, c2, T, rfl, hnk, rfl, hS, HT⟩ := hrel
    clear hS3
    by_cases hlt : 0 < k
    · obtain ⟨m', rfl⟩ : ∃ m', k = m' + 1 := ⟨k - 1, by omega⟩
      have hcw := hS.cur.lt
      have hlit : ∀ k1 t, (#[.string ⟨#[120]⟩, .string ⟨#[121]⟩, .string ⟨#[122]⟩] : Array Value)[k1]? = some (.string t) → (wr.alloc (.cells #[.string ⟨#[120]⟩, .string ⟨#[121]⟩, .string ⟨#[122]⟩] 9)).cell? ⟨wr.heap.size, k1, none⟩ = some (.string t) := fun k1 t hA => (cell_new wr _ 9 k1).trans hA
      go_wp2_with fail
      refine (l1Below_any _ a len cap 3 _ (hS.cur.alloc _) hml (by decide) (by decide)).mono ?_
      rintro e w4 ⟨x, rfl, hx0, hx1, hb4, hc4⟩
      obtain ⟨k1, rfl⟩ : ∃ k : Nat, x = (k : Int) := ⟨x.toNat, by omega⟩
      obtain ⟨t, hA, hts⟩ := xyz_at k1 (by omega)
      have hcell := (hb4.cell wr.heap.size k1 (by simp) (by omega)).trans (hlit k1 t hA)
      have hS4 := (hS.alloc (.cells #[.string ⟨#[120]⟩, .string ⟨#[121]⟩, .string ⟨#[122]⟩] 9)).call hb4 hc4
      have HT2 : Hid (∀ i (h : i < (T ++ [t]).length), (T ++ [t])[i].size ≤ maxLen) := fun i h => by
        rw [List.getElem_append]
        split
        · exact HT.out _ _
        · simp
          unfold maxLen
          omega
      clear hb4 hc4 hS hlit hA HT
      have hcc3 : n + 1 ≤ maxLen := by unfold maxLen; omega
      have hcc4 : (n + 1) * 16 ≤ 140737488355328 := by omega
      have hcc5 : w2.heap.size ≤ (w4.alloc (.cells #[.string t] 9)).heap.size := Nat.le_trans hS4.but.2.2.2.1 (by simp)
      go_wp2_with (at_builtin; refine wpList_append_own _ rfl _ _ 35 rfl w2.heap.size 9 i0 (.string ⟨#[]⟩) 1 16 Try.underlying35 hi hz0 hz1 hz2 rfl (by decide) _ _ _ rfl (World.ownsRow.alloc hS4.own _) ⟨w4.heap.size, 0, none⟩ 1 1 [.string t] rfl rfl (tx_new w4 t) (tx_one t) hcc3 hcc4 hcc5 ?_)
      intro v' w5 hown' hgrow hnil
      obtain ⟨g5, c5, rfl, hS5⟩ := hS4.more t hown' hgrow hnil
      clear hown' hgrow hnil hcc3 hcc4 hcc5 hS4 hcell
      go_wp2
      exact ⟨⟨m', g5, n + 1, c5, T ++ [t], by go_num, by omega, rfl, hS5, HT2⟩, by simp [intOf]⟩
    · have e : k = 0 := by omega
      subst e
      have hn7 : n ≤ 4 := by omega
      clear hnk hlt
      go_wp2_with fail
      refine (l1Once_any _ a len cap 10 _ hS.cur hml (by decide) (by decide)).mono ?_
      rintro e w4 ⟨b, rfl, hb4, hc4⟩
      have hS4 := hS.call hb4 hc4
      clear hb4 hc4 hS
      cases b
      · obtain ⟨g6, n6, c6, T6, eg, en, ec, hS6, HT6, hn6⟩ : ∃ g6 n6 c6 T6, q = g6 ∧ n = n6 ∧ c2 = c6 ∧ DN w.heap.size a len cap w2 g6 n6 c6 T6 g X w4 ∧ Hid (∀ i (h : i < T6.length), T6[i].size ≤ maxLen) ∧ n6 ≤ 9 := ⟨q, n, c2, T, rfl, rfl, rfl, hS4, HT, by omega⟩
        rw [eg, en, ec]
        clear hS4 HT hn7 eg en ec
        go_wp2_with fail
        refine (l1Once_any _ a len cap 2 _ hS6.cur hml (by decide) (by decide)).mono ?_
        rintro e w7 ⟨b, rfl, hb7, hc7⟩
        have hS7 := hS6.call hb7 hc7
        clear hb7 hc7 hS6
        go_wp2_with fail
        refine (l1From_any _ a len cap (-1) 5 _ hS7.cur hml (by decide) (by decide) (by decide) (by decide)).mono ?_
        rintro e w8 ⟨f, rfl, hf0, hf1, hb8, hc8⟩
        have hS8 := hS7.call hb8 hc8
        clear hb8 hc8 hS7
        have hn := hS8.own.len
        subst hn
        obtain ⟨hr8, hg8⟩ := hS8.own.row
        have hB8 := But.below hB2 (Nat.le_refl _) hS8.but
        obtain ⟨hcp1, hcp2⟩ : T6.length ≤ c6 ∧ c6 ≤ maxLen := by
          rcases hS8.own.2 with ⟨e, _⟩ | ⟨_, _, _, e, _, _, h1, h2, _⟩
          · cases e
          · cases e
            exact ⟨h1, h2⟩
        have he8 := hS8.env
        have HT8 : Hid (∀ i (h : i < T6.length), T6[i].size ≤ maxLen) := HT6
        clear hS8 HT6
        go_wp2
        refine bodyPost_ret (v := .tuple #[.slice (some ⟨g, 0, none⟩) X.length cp, .slice (some ⟨g6, 0, none⟩) T6.length c6, .bool b, .int .i64 f]) (by simp [results, Try.results38, go_sem]) rfl ?_
        exact ⟨g, cp, X, g6, c6, T6, b, f, rfl, he8, by omega, hok, hl, hr8, by omega, HT8.out, by omega, hcp1, hcp2, hf0, hf1, hB8⟩
      · go_wp2_with fail
        refine (l2DrawAny_any _ a len cap _ hS4.cur hml).mono ?_
        rintro e w5 ⟨s2, rfl, hs2, hb5, hc5⟩
        have hS5 := hS4.call hb5 hc5
        have HT2 : Hid (∀ i (h : i < (T ++ [s2]).length), (T ++ [s2])[i].size ≤ maxLen) := fun i h => by
          rw [List.getElem_append]
          split
          · exact HT.out _ _
          · simp
            unfold maxLen
            omega
        clear hb5 hc5 hS4 HT
        have hcc3 : n + 1 ≤ maxLen := by unfold maxLen; omega
        have hcc4 : (n + 1) * 16 ≤ 140737488355328 := by omega
        have hcc5 : w2.heap.size ≤ (w5.alloc (.cells #[.string s2] 9)).heap.size := Nat.le_trans hS5.but.2.2.2.1 (by simp)
        go_wp2_with (at_builtin; refine wpList_append_own _ rfl _ _ 35 rfl w2.heap.size 9 i0 (.string ⟨#[]⟩) 1 16 Try.underlying35 hi hz0 hz1 hz2 rfl (by decide) _ _ _ rfl (World.ownsRow.alloc hS5.own _) ⟨w5.heap.size, 0, none⟩ 1 1 [.string s2] rfl rfl (tx_new w5 s2) (tx_one s2) hcc3 hcc4 hcc5 ?_)
        intro v' w6 hown' hgrow hnil
        obtain ⟨g5, c5, rfl, hS6'⟩ := hS5.more s2 hown' hgrow hnil
        clear hown' hgrow hnil hcc3 hcc4 hcc5 hS5
        obtain ⟨g6, n6, c6, T6, eg, en, ec, hS6, HT6, hn6⟩ : ∃ g6 n6 c6 T6, g5 = g6 ∧ n + 1 = n6 ∧ c5 = c6 ∧ DN w.heap.size a len cap w2 g6 n6 c6 T6 g X w6 ∧ Hid (∀ i (h : i < T6.length), T6[i].size ≤ maxLen) ∧ n6 ≤ 9 := ⟨g5, n + 1, c5, _, rfl, rfl, rfl, hS6', HT2, by omega⟩
        rw [eg, en, ec]
        clear hS6' HT2 hn7 eg en ec
        go_wp2_with fail
        refine (l1Once_any _ a len cap 2 _ hS6.cur hml (by decide) (by decide)).mono ?_
        rintro e w7 ⟨b, rfl, hb7, hc7⟩
        have hS7 := hS6.call hb7 hc7
        clear hb7 hc7 hS6
        go_wp2_with fail
        refine (l1From_any _ a len cap (-1) 5 _ hS7.cur hml (by decide) (by decide) (by decide) (by decide)).mono ?_
        rintro e w8 ⟨f, rfl, hf0, hf1, hb8, hc8⟩
        have hS8 := hS7.call hb8 hc8
        clear hb8 hc8 hS7
        have hn := hS8.own.len
        subst hn
        obtain ⟨hr8, hg8⟩ := hS8.own.row
        have hB8 := But.below hB2 (Nat.le_refl _) hS8.but
        obtain ⟨hcp1, hcp2⟩ : T6.length ≤ c6 ∧ c6 ≤ maxLen := by
          rcases hS8.own.2 with ⟨e, _⟩ | ⟨_, _, _, e, _, _, h1, h2, _⟩
          · cases e
          · cases e
            exact ⟨h1, h2⟩
        have he8 := hS8.env
        have HT8 : Hid (∀ i (h : i < T6.length), T6[i].size ≤ maxLen) := HT6
        clear hS8 HT6
        go_wp2
        refine bodyPost_ret (v := .tuple #[.slice (some ⟨g, 0, none⟩) X.length cp, .slice (some ⟨g6, 0, none⟩) T6.length c6, .bool b, .int .i64 f]) (by simp [results, Try.results38, go_sem]) rfl ?_
        exact ⟨g, cp, X, g6, c6, T6, b, f, rfl, he8, by omega, hok, hl, hr8, by omega, HT8.out, by omega, hcp1, hcp2, hf0, hf1, hB8⟩

end Go.Proofs.Ytcmjmoikalfdkaa
