/-
  The law of Alike, whole: on whatever tape the machine comes to its end, the law says true, and what came in stays.
-/
import Derived.Test.YtnndfgceehfiiaaLwI
namespace Go.Proofs.Ytnndfgceehfiiaa
open Go.Conc Go.ConcN Go.RowKit
open Go.ConcR (Payload)

/-- What is asked at the end. -/
def LawPost (W : World) (v : Value) (w' : World) : Prop := v = .bool true ∧ Below W.heap.size W w'

theorem atEnd_of {W : World} {Shun : Loc → Prop} {B : Nat} {g' : Goroutine} {w' : World} (h : AtEnd1 W g' w') : ∀ w₁, AtRel w' w₁ → AtEnd Try.prog Shun B (LawPost W) g' w₁ := by
  rintro _ ⟨d, rfl⟩
  exact ⟨(h.2 d).1, .bool true, #[], (h.2 d).2, by simp, rfl, below_at h.1⟩

/-- At its end in whatever company. -/
theorem goes_atEnd {W : World} {Shun : Loc → Prop} {B : Nat} {D : World → World → Array Event → Prop} : ∀ {n : Nat} {g' : Goroutine} {w' : World}, Goes Try.prog true AtRel D (AtEnd1 W) n g' w' → Goes Try.prog true AtRel D (AtEnd Try.prog Shun B (LawPost W)) n g' w' :=
  fun h => goes_post (fun _ w h => atEnd_of h w (atRel_refl w)) _ _ _ h

section
variable [Payload] {W : World} {K L : List ByteArray} {f s g u : Int}
/-- From the entry of impl.bothSides on. -/
theorem good_from (hety : Payload.ety = 35) {w : World} {a : Goroutine} {t : Trace} (h : S1 W K L f s g u a w) (hp : Pre (w.heap.size + 6) 0 t) :
    ∃ N last o w' t', runNT Try.prog (N + 1) (solo a w) t = (.ended o w', t') ∧ runN Try.prog N (solo a w) = .next last ∧ step Try.prog last = .ended o w' ∧ Go.Conc.Good Try.prog (LawPost W) last o w' t' := by
  obtain ⟨c, cs, ga, gb, hK1, hL1, rfl, hra, hrb, hsz, hbel, hcont⟩ := h
  obtain ⟨W2, M, Low, n2, hBs, hLow, hG2⟩ := bothStart (c := c) (cs := cs) (f := f) (s := s) (g := g) (u := u) hety hK1 hL1 w hra hrb
  obtain ⟨n3, m3, t3, r3, gs, x, sl, a3, q, B, rfl, hg0, ⟨n4, hK⟩, ⟨kc, hpay, hkc⟩, hch, hxLow, hL, hP⟩ := two_from hp (geo2 w.heap.size) anchB_run anchB_round hG2
  obtain ⟨Q, hQ⟩ : ∃ Q, Q = Low + 40 := ⟨_, rfl⟩
  obtain ⟨B', hB'⟩ : ∃ B', B' = max B Q := ⟨_, rfl⟩
  have hP' := hP.mono (show B ≤ B' by rw [hB']; exact Nat.le_max_left _ _)
  have hQB : Q ≤ B' := by rw [hB']; exact Nat.le_max_right _ _
  have hW2 := hBs.size
  obtain ⟨N4, gs4, a4, w4, sl4, t4, q4, r4, _, h04, ⟨⟨x9, x10, x11, x12, rfl⟩, hRS, d4, rfl⟩, hL4, hP4⟩ := walk_beside (fun _ _ es h e he => (h e he).elim) _ n4 gs a3 x sl t3 q (Nat.le_refl _) hg0 hL hP' hK
  have hxs := hRS.rg.size
  have hold : ∀ b, b < w.heap.size + 7 → b ≠ w.heap.size + 6 → b ≠ w.heap.size + 4 → b ≠ w.heap.size + 2 → x.heap[b]? = W2.heap[b]? := fun b hb h1 h2 h3 => hRS.rg.old b (.inr hb) h1 h2 h3
  have hS : (x.at d4).cell? ⟨w.heap.size + 5, 0, none⟩ = some (.chan (some (w.heap.size + 4))) := by
    have := (hold (w.heap.size + 5) (by omega) (by omega) (by omega) (by omega)).trans hBs.b5
    show x.cell? _ = _
    simp [World.cell?, this]
  obtain ⟨kl⟩ := kc
  obtain ⟨k0, k1, k2, rfl⟩ : ∃ k0 k1 k2, kl = [k0, k1, k2] := by
    match kl, hkc with
    | [k0, k1, k2], _ => exact ⟨k0, k1, k2, rfl⟩
  have hC : RowF (x.at d4) (w.heap.size + 2) [k0, k1, k2] := rowF_of_block (w := x) hpay
  have hD : RowF (x.at d4) (w.heap.size + 3) [.bool false, .bool false, .bool false] := rowF_of_block (w := x) ((hold (w.heap.size + 3) (by omega) (by omega) (by omega) (by omega)).trans hBs.b3)
  have nb : ∀ b, b < w.heap.size + 6 → ¬ (b = w.heap.size + 6 ∨ Q ≤ b) := fun b hb h => by omega
  have nn : ∀ i, i < 6 → ¬ ((x.at d4).heap.size + i = w.heap.size + 6 ∨ Q ≤ (x.at d4).heap.size + i) := fun i hi h => by
    have e : (x.at d4).heap.size = x.heap.size := rfl
    omega
  have hR : ∃ (N : Nat) (gs' : Array Goroutine) (w' : World) (sl' : Option (Nat × Nat)) (t' : Trace) (q' : Nat → Nat),
      runNT Try.prog N (crowd gs4 (x.at d4) sl4) t4 = (.next (crowd gs' w' sl'), t') ∧ gs'[0]? = some (G (c.finish (.tuple #[.agg #[.bool false, .bool (endB f), .bool (begB K L)], .agg #[.bool true, .bool (endB g), .bool (begB L K)]])) cs) ∧ DoneF w.heap.size (x.at d4) w' ∧ Leavers Try.prog t' gs' q' ∧ Past (ShN (w.heap.size + 6)) B' t' := by
    rcases hch with hch | hch
    · exact recv_chain hQB (by omega) (after1 (endB f) (begB K L) (endB g) (begB L K) (x.at d4) x9 x10 x11 x12 k0 k1 k2 (by show _ < x.heap.size; omega) (by show _ < x.heap.size; omega) hS hch hC hD (nb _ (by omega)) (nb _ (by omega)) (nb _ (by omega)) nn) h04 hL4 hP4
    · exact recv_chain hQB (by omega) (after2 (endB f) (begB K L) (endB g) (begB L K) (x.at d4) x9 x10 x11 x12 k0 k1 k2 (by show _ < x.heap.size; omega) (by show _ < x.heap.size; omega) hS hch hC hD (nb _ (by omega)) (nb _ (by omega)) (nb _ (by omega)) nn) h04 hL4 hP4
  obtain ⟨N5, gs5, w5, sl5, t5, q5, r5, h05, hdn, hL5, hP5⟩ := hR
  have hz5 : w5.heap.size = x.heap.size + 6 := hdn.size
  have hb5 : Below w.heap.size w w5 := by
    refine ⟨hdn.str.1.trans (hRS.os.trans hBs.bel.os), hdn.str.2.1.trans (hRS.tape.trans hBs.bel.tape), hdn.str.2.2.trans (hRS.output.trans hBs.bel.output), by omega, fun b hb => ?_⟩
    exact (hdn.old b (by show b < x.heap.size; omega) (by omega) (by omega) (by omega)).trans ((hold b (by omega) (by omega) (by omega) (by omega)).trans (hBs.bel.block b hb))
  obtain ⟨n6, hG6⟩ := hcont (fun b => b = w.heap.size + 6 ∨ Q ≤ b) w5 (fun b hb => nb b (by omega)) (fun i hi h => by omega) hb5
  obtain ⟨N6, last, o, w6, t6, e1, e2, e3, e4⟩ := beside_ends (B := B') (Shun := ShN (w.heap.size + 6)) (Post := LawPost W) (sl := sl5) (fun _ _ es h e he => evL_of (Ch := w.heap.size + 4) hQB (by omega) (.inl (h e he))) h05 hL5 hP5 (goes_atEnd hG6)
  refine ⟨n3 + (N4 + (N5 + N6)), last, o, w6, t6, ?_, ?_, e3, e4⟩
  · rw [Nat.add_assoc, runNT_add, r3]
    show runNT _ (N4 + (N5 + N6) + 1) (crowd gs x sl) t3 = _
    rw [Nat.add_assoc, runNT_add, r4]
    show runNT _ (N5 + N6 + 1) (crowd gs4 (x.at d4) sl4) t4 = _
    rw [Nat.add_assoc, runNT_add, r5]
    exact e1
  · have g3 : runN Try.prog n3 (solo (G ((base 18).at ⟨#[.agg #[.slice (some ⟨ga, 0, none⟩) K.length K.length, .int .i64 f, .int .i64 s], .agg #[.slice (some ⟨gb, 0, none⟩) L.length L.length, .int .i64 g, .int .i64 u], undef, undef, undef, undef, undef, undef, undef, undef, undef, undef, undef, undef, undef, undef, undef, undef], []⟩ [.code bothB]) (c :: cs)) w) = .next (crowd gs x sl) := by rw [← runNT_fst Try.prog _ _ t, r3]
    have g4 : runN Try.prog N4 (crowd gs x sl) = .next (crowd gs4 (x.at d4) sl4) := by rw [← runNT_fst Try.prog _ _ t3, r4]
    have g5 : runN Try.prog N5 (crowd gs4 (x.at d4) sl4) = .next (crowd gs5 w5 sl5) := by rw [← runNT_fst Try.prog _ _ t4, r5]
    rw [runN_add, g3]
    show runN _ (N4 + (N5 + N6)) (crowd gs x sl) = _
    rw [runN_add, g4]
    show runN _ (N5 + N6) (crowd gs4 (x.at d4) sl4) = _
    rw [runN_add, g5]
    exact e2
end

theorem runs_join {P : Program} {ent a' : Goroutine} {W w' w'' : World} {k N : Nat} {t' t'' : Trace} {last : Machine} {o : Outcome} (r1 : runNT P k (solo ent W) #[] = (.next (solo a' w'), t')) (e1 : runNT P (N + 1) (solo a' w') t' = (.ended o w'', t'')) (e2 : runN P N (solo a' w') = .next last) :
    runNT P (k + N + 1) (solo ent W) #[] = (.ended o w'', t'') ∧ runN P (k + N) (solo ent W) = .next last := by
  refine ⟨?_, ?_⟩
  · rw [Nat.add_assoc, runNT_add, r1]; exact e1
  · rw [runN_add, ← runNT_fst P _ _ #[], r1]; exact e2

/-- The law holds, on whatever tape. -/
theorem lawGood (W : World) (K L : List ByteArray) (a0 a1 : Option Addr) (cap0 cap1 : Nat) (f s g u : Int) (h0 : ArgT W a0 K) (h1 : ArgT W a1 L) (hm0 : K.length ≤ maxLen) (hm1 : L.length ≤ maxLen)
    (hlt0 : ∀ sb off, a0 = some ⟨sb, off, none⟩ → sb < W.heap.size) (hlt1 : ∀ sb off, a1 = some ⟨sb, off, none⟩ → sb < W.heap.size) :
    ∃ N last o w' t', runNT Try.prog (N + 1) (solo (G ((base 4).at ⟨#[.agg #[.slice a0 K.length cap0, .int .i64 f, .int .i64 s], .agg #[.slice a1 L.length cap1, .int .i64 g, .int .i64 u], undef, undef, undef, undef, undef, undef, undef, undef, undef, undef, undef, undef, undef, undef, undef, undef, undef, undef, undef, undef, undef, undef, undef, undef, undef, undef, undef, undef, undef, undef, undef, undef, undef, undef, undef, undef, undef, undef, undef, undef, undef, undef, undef], []⟩ [.code lawB]) []) W) #[] = (.ended o w', t') ∧
      runN Try.prog N (solo (G ((base 4).at ⟨#[.agg #[.slice a0 K.length cap0, .int .i64 f, .int .i64 s], .agg #[.slice a1 L.length cap1, .int .i64 g, .int .i64 u], undef, undef, undef, undef, undef, undef, undef, undef, undef, undef, undef, undef, undef, undef, undef, undef, undef, undef, undef, undef, undef, undef, undef, undef, undef, undef, undef, undef, undef, undef, undef, undef, undef, undef, undef, undef, undef, undef, undef, undef, undef, undef, undef], []⟩ [.code lawB]) []) W) = .next last ∧ step Try.prog last = .ended o w' ∧ Go.Conc.Good Try.prog (LawPost W) last o w' t' := by
  obtain ⟨Wg, hWg⟩ : ∃ Wg, Wg = W.heap.size + 24 + alikeN f g + 6 := ⟨_, rfl⟩
  have hb0 : Nb (fun b => b = Wg) a0 := fun sb off e h => by have := hlt0 sb off e; omega
  have hb1 : Nb (fun b => b = Wg) a1 := fun sb off e h => by have := hlt1 sb off e; omega
  have hM : ∃ m, K.length ≤ 1048576 → L.length ≤ 1048576 → ∀ (w' : World) (v0 v1 v4 v5 v6 v7 v8 v9 v10 v11 v12 v13 v14 v15 v16 v17 v18 v19 v20 v21 v22 v23 v24 v25 v26 v27 v28 v29 v30 v31 v32 v33 v34 v35 v36 v37 v38 v39 v40 v41 v42 v43 v44 : Value), LawF W K L a0 cap0 f s a1 cap1 g u w' → w'.heap.size = W.heap.size + 4 →
      Goes Try.prog true AtRel (DE (EvP fun b => b = Wg)) (fun g' w' => AtEnd1 W g' w' ∨ S1 W K L f s g u g' w') m (G ((base 4).at ⟨#[v0, v1, .pointer (some ⟨W.heap.size, 0, none⟩), .pointer (some ⟨W.heap.size + 1, 0, none⟩), v4, v5, v6, v7, v8, v9, v10, v11, v12, v13, v14, v15, v16, v17, v18, v19, v20, v21, v22, v23, v24, v25, v26, v27, v28, v29, v30, v31, v32, v33, v34, v35, v36, v37, v38, v39, v40, v41, v42, v43, v44], []⟩ [.code lawC8]) []) w' := by
    by_cases hc : K.length ≤ 1048576 ∧ L.length ≤ 1048576
    · obtain ⟨m, H⟩ := lawMid (fun b => b = Wg) W K L a0 a1 cap0 cap1 f s g u hc.1 hc.2 hb0 hb1 h0 h1 hlt0 hlt1 (fun b hb h => by omega)
      exact ⟨m, fun _ _ w' v0 v1 v4 v5 v6 v7 v8 v9 v10 v11 v12 v13 v14 v15 v16 v17 v18 v19 v20 v21 v22 v23 v24 v25 v26 v27 v28 v29 v30 v31 v32 v33 v34 v35 v36 v37 v38 v39 v40 v41 v42 v43 v44 hF hz => goes_post (fun _ _ h => .inr h) _ _ _ (H w' v0 v1 v4 v5 v6 v7 v8 v9 v10 v11 v12 v13 v14 v15 v16 v17 v18 v19 v20 v21 v22 v23 v24 v25 v26 v27 v28 v29 v30 v31 v32 v33 v34 v35 v36 v37 v38 v39 v40 v41 v42 v43 v44 hF hz)⟩
    · exact ⟨0, fun a b => absurd ⟨a, b⟩ hc⟩
  obtain ⟨m, hM⟩ := hM
  obtain ⟨n, hG⟩ := lawPre (fun b => b = Wg) W K L a0 a1 cap0 cap1 f s g u (Stop := fun g' w' => AtEnd1 W g' w' ∨ S1 W K L f s g u g' w') (m := m) hb0 hb1 h0 h1 hm0 hm1 (fun b hb h => by omega) (fun _ _ h => .inl h) hM
  have hG' := goes_eq (E' := Ev0 Wg Own0 (Rd0 Wg) 0) (fun e ⟨a, x, he, hb⟩ => by rw [he]; exact ev0_plain a x hb) (fun _ _ h => h) _ _ _ hG
  obtain ⟨k, a', w', t', r1, hs, hp⟩ := solo_walk (Pre.nil Wg) hG'
  rcases hs with hs | hs
  · obtain ⟨B, hP⟩ := pre_past hp
    obtain ⟨N, last, o, w'', t'', e1, e2, e3, e4⟩ := beside_ends (gs := #[a']) (sl := none) (D := DE fun _ => False) (Post := LawPost W) (fun _ _ es h e he => (h e he).elim) rfl (pre_leavers hp a') hP (Goes.stop (n := 0) (atEnd_of hs))
    obtain ⟨j1, j2⟩ := runs_join r1 e1 e2
    exact ⟨k + N, last, o, w'', t'', j1, j2, e3, e4⟩
  · have hsz : w'.heap.size + 6 = Wg := by
      obtain ⟨_, _, _, _, _, _, _, _, _, hsz, _⟩ := hs
      omega
    obtain ⟨N, last, o, w'', t'', e1, e2, e3, e4⟩ := @good_from ⟨35⟩ W K L f s g u rfl w' a' t' hs (by rw [hsz]; exact hp)
    obtain ⟨j1, j2⟩ := runs_join r1 e1 e2
    exact ⟨k + N, last, o, w'', t'', j1, j2, e3, e4⟩

end Go.Proofs.Ytnndfgceehfiiaa
