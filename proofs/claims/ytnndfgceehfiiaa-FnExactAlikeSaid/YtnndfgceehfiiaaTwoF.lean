/-
  Beside goroutines that only leave: goroutine 0's turn comes, and it makes a communication that nobody else takes part in.
-/
import Derived.Test.YtnndfgceehfiiaaTwoE
namespace Go.Proofs.Ytnndfgceehfiiaa
open Go.Conc Go.ConcN

section
variable {P : Program} {Shun : Loc → Prop} {B : Nat}

theorem beside_turn {a a' : Goroutine} {w : World} {W' : Nat → World} {ops : Trace} (hrun : a.status = .running)
    (hstep : ∀ (d : Nat) (gs₁ : Array Goroutine) (sl₁ : Option (Nat × Nat)), gs₁[0]? = some a → (∀ i g, 0 < i → gs₁[i]? = some g → g.status = .running ∨ g.status = .finished) → runT P (crowd gs₁ (w.at d) sl₁) 0 = (.next (crowd (gs₁.setIfInBounds 0 a') (W' d) sl₁), ops))
    (hu : ∀ op ∈ ops, op.g = 0) (hnt : ∀ op ∈ ops, op.act.touch? = none) (hd : ∀ t : Trace, Deaf (t ++ ops) 0 = Deaf t 0) (hl : ∀ op ∈ ops, op.act.low B) :
    ∀ (M : Nat) (gs : Array Goroutine) (d₁ : Nat) (sl : Option (Nat × Nat)) (t : Trace) (q : Nat → Nat), sumTo gs.size q ≤ M → gs[0]? = some a → Leavers P t gs q → Past Shun B t →
      ∃ (N : Nat) (gs' : Array Goroutine) (d : Nat) (sl' : Option (Nat × Nat)) (t' : Trace) (q' : Nat → Nat),
        runNT P N (crowd gs (w.at d₁) sl) t = (.next (crowd gs' (W' d) sl'), t') ∧ gs'.size = gs.size ∧ gs'[0]? = some a' ∧ Leavers P t' gs' q' ∧ Past Shun B t' := by
  intro M
  induction M with
  | zero =>
    intro gs d₁ sl t q hM h0 hL hP
    have hst' : ∀ i g, 0 < i → gs[i]? = some g → g.status = .running ∨ g.status = .finished := fun i g hi hg => (hL.old i g hi hg).status
    have haw : ∀ g ∈ gs, awake g := by
      intro g hg
      obtain ⟨i, hi, rfl⟩ := Array.mem_iff_getElem.1 hg
      rcases Nat.eq_zero_or_pos i with rfl | hpos
      · have : gs[0] = a := by simpa [Array.getElem?_eq_getElem hi] using h0
        rw [this]; exact awake_of (.inl hrun)
      · exact awake_of ((hst' i _ hpos (Array.getElem?_eq_getElem hi)).elim .inl fun x => .inr (.inr x))
    obtain ⟨i, g, d, sl', hi, hg, hst⟩ := crowd_pick (P := P) (w := w.at d₁) (sl := sl) haw ⟨0, a, h0, hrun⟩
    have hlt : i < gs.size := (Array.getElem?_eq_some_iff.1 hi).1
    rcases Nat.eq_zero_or_pos i with rfl | hpos
    · have hr := hstep d gs sl' h0 hst'
      refine ⟨1, gs.setIfInBounds 0 a', d, sl', t ++ ops, q, ?_, by simp, by simp [(Array.getElem?_eq_some_iff.1 h0).1], ⟨fun j x hj hx => ?_, fun j hj => ?_⟩, ?_⟩
      · simp only [runNT, hst]
        rw [show (w.at d₁).at d = w.at d from rfl, hr]
      · rw [Array.getElem?_setIfInBounds_ne (by omega)] at hx
        rw [Deaf_other t (g' := 0) (by omega) _ hu]
        exact hL.old j x hj hx
      · rw [Deaf_other t (g' := 0) (by simp at hj; omega) _ hu]
        exact hL.above j (by simpa using hj)
      · exact hP.app0 hu (fun op hop b hb => by rw [hnt op hop] at hb; cases hb) (hd t) hl
    · exfalso
      have hq := hL.old i g hpos hi
      have h1 := sumTo_upd q 0 id hlt
      have h2 : q i = 0 := by
        have := Go.ConcN.le_sumTo (f := q) hlt
        omega
      rw [h2] at hq
      rw [hq.1] at hg; cases hg
  | succ M ih =>
    intro gs d₁ sl t q hM h0 hL hP
    have hst' : ∀ i g, 0 < i → gs[i]? = some g → g.status = .running ∨ g.status = .finished := fun i g hi hg => (hL.old i g hi hg).status
    have haw : ∀ g ∈ gs, awake g := by
      intro g hg
      obtain ⟨i, hi, rfl⟩ := Array.mem_iff_getElem.1 hg
      rcases Nat.eq_zero_or_pos i with rfl | hpos
      · have : gs[0] = a := by simpa [Array.getElem?_eq_getElem hi] using h0
        rw [this]; exact awake_of (.inl hrun)
      · exact awake_of ((hst' i _ hpos (Array.getElem?_eq_getElem hi)).elim .inl fun x => .inr (.inr x))
    obtain ⟨i, g, d, sl', hi, hg, hst⟩ := crowd_pick (P := P) (w := w.at d₁) (sl := sl) haw ⟨0, a, h0, hrun⟩
    have hlt : i < gs.size := (Array.getElem?_eq_some_iff.1 hi).1
    rcases Nat.eq_zero_or_pos i with rfl | hpos
    · have hr := hstep d gs sl' h0 hst'
      refine ⟨1, gs.setIfInBounds 0 a', d, sl', t ++ ops, q, ?_, by simp, by simp [(Array.getElem?_eq_some_iff.1 h0).1], ⟨fun j x hj hx => ?_, fun j hj => ?_⟩, ?_⟩
      · simp only [runNT, hst]
        rw [show (w.at d₁).at d = w.at d from rfl, hr]
      · rw [Array.getElem?_setIfInBounds_ne (by omega)] at hx
        rw [Deaf_other t (g' := 0) (by omega) _ hu]
        exact hL.old j x hj hx
      · rw [Deaf_other t (g' := 0) (by simp at hj; omega) _ hu]
        exact hL.above j (by simpa using hj)
      · exact hP.app0 hu (fun op hop b hb => by rw [hnt op hop] at hb; cases hb) (hd t) hl
    · -- a leaver slips
      have hq := hL.old i g hpos hi
      have hi0 : (i == 0) = false := by simp; omega
      cases hqi : q i with
      | zero => rw [hqi] at hq; rw [hq.1] at hg; cases hg
      | succ k =>
        rw [hqi] at hq
        rcases hq with ⟨hf, _⟩ | ⟨_, g', es, hm, hstp, hq'⟩
        · rw [hf] at hg; cases hg
        have hrunT := runT_crowd_go (P := P) (sl := sl') (i := i) hi (by rw [hi0]; exact hstp ((w.at d₁).at d))
        have hsz : ((gs.map (woken P g g' ((w.at d₁).at d))).setIfInBounds i g').size = gs.size := by simp
        have hsum : sumTo gs.size (upd q i k) + (k + 1) = sumTo gs.size q + k := by
          have := sumTo_upd q k id hlt
          simpa [hqi] using this
        obtain ⟨N, gs', d', sl'', t', q', hr, hs', h0', hL', hP'⟩ := ih ((gs.map (woken P g g' ((w.at d₁).at d))).setIfInBounds i g') d sl' (t ++ MemOp.ofEvents i g.frame.fn g.frame.place es) (upd q i k) (by rw [hsz]; omega)
          (by
            have hne : i ≠ 0 := by omega
            rw [Array.getElem?_setIfInBounds_ne hne, Array.getElem?_map, h0]
            simp [woken_run hrun])
          ⟨fun j x hj hx => by
            by_cases hji : i = j
            · subst hji
              rw [Array.getElem?_setIfInBounds_self_of_lt (by simpa using hlt)] at hx
              obtain rfl := Option.some.inj hx
              rw [upd_same, Deaf_own]
              exact hq'
            · rw [Array.getElem?_setIfInBounds_ne hji, Array.getElem?_map] at hx
              obtain ⟨y, hy, rfl⟩ := Option.map_eq_some_iff.1 hx
              have hqj := hL.old j y hj hy
              rw [woken_quitsD hqj, upd_ne q k (Ne.symm hji), Deaf_other t hji _ Go.ConcR.g_of_ofEvents]
              exact hqj, fun j hj => by
            rw [Deaf_other t (g' := i) (by simp at hj; omega) _ Go.ConcR.g_of_ofEvents]
            exact hL.above j (by simpa using hj)⟩
          (hP.mute (by omega) hm)
        exact ⟨N + 1, gs', d', sl'', t', q', by simp only [runNT, hst, hrunT]; exact hr, hs'.trans hsz, h0', hL', hP'⟩

/-- Nobody takes part: all others run, or are at their end. -/
theorem no_partners0 {a : Goroutine} {gs : Array Goroutine} {c : Nat} {send : Bool} (_h0 : gs[0]? = some a) (h : ∀ i g, 0 < i → gs[i]? = some g → g.status = .running ∨ g.status = .finished) : partners (gs.setIfInBounds 0 ph) c send = [] := by
  refine partners_nil fun j g hj => ?_
  rcases getElem?_stand gs 0 j g hj with ⟨_, rfl⟩ | ⟨hne, hg⟩
  · exact offersAt_ph c send
  · exact offersAt_of_not_blocked (by rcases h j g (by omega) hg with e | e <;> rw [e] <;> simp) _ _

/-- A receive takes from the buffer. -/
theorem beside_recv {a a₂ : Goroutine} {w : World} {c cap s r : Nat} {buf : Array Value} {closed tm blocking : Bool} {shape : CommShape} {z : Value} {gs : Array Goroutine} {sl : Option (Nat × Nat)} {t : Trace} {q : Nat → Nat}
    (hrun : a.status = .running) (hst : ∀ d, stepG P true a (w.at d) = .comm a₂ #[rcase c z] blocking shape (w.at d) #[]) (hc : w.heap[c]? = some (.chan cap buf closed s r tm)) (hsome : 0 < buf.size) (hcB : c < B)
    (h0 : gs[0]? = some a) (hL : Leavers P t gs q) (hP : Past Shun B t) :
    ∃ (N : Nat) (gs' : Array Goroutine) (d : Nat) (sl' : Option (Nat × Nat)) (t' : Trace) (q' : Nat → Nat),
      runNT P N (crowd gs w sl) t = (.next (crowd gs' ((w.at d).setChan c cap (buf.extract 1 buf.size) closed s (r + 1) tm) sl'), t') ∧ gs'[0]? = some (a₂.finishComm P #[rcase c z] shape 0 (buf.getD 0 undef) true) ∧ Leavers P t' gs' q' ∧ Past Shun B t' := by
  have hmem : ∀ op ∈ #[({ g := 0, fn := a₂.frame.fn, pos := a₂.frame.place, act := .recv c r cap } : MemOp), { g := 0, fn := a₂.frame.fn, pos := a₂.frame.place, act := .recvDone c r }], op.g = 0 ∧ op.act.touch? = none ∧ op.act.low B ∧ (∀ m, op.act ≠ .mark m) := by
    intro op hop
    simp only [List.mem_toArray, List.mem_cons, List.not_mem_nil, or_false] at hop
    rcases hop with rfl | rfl <;> exact ⟨rfl, rfl, hcB, fun _ => by simp⟩
  obtain ⟨N, gs', d, sl', t', q', h1, _, h2, h3, h4⟩ := beside_turn (w := w) (W' := fun d => (w.at d).setChan c cap (buf.extract 1 buf.size) closed s (r + 1) tm) hrun
    (fun d gs₁ sl₁ hg hs => by
      have := crowd_recv_buf (P := P) (sl := sl₁) (i := 0) hg (by simpa using hst d) (show (w.at d).heap[c]? = _ from hc) hsome (no_partners0 hg hs)
      rw [show MemOp.ofEvents 0 a.frame.fn a.frame.place #[] = #[] from rfl, Array.empty_append] at this
      exact this) (fun op hop => (hmem op hop).1) (fun op hop => (hmem op hop).2.1)
    (fun t => Go.ConcN.Deaf_still t 0 _ fun op hop => ⟨(hmem op hop).2.2.2 _, (hmem op hop).2.2.2 _⟩) (fun op hop => (hmem op hop).2.2.1) _ gs w.drawn sl t q (Nat.le_refl _) h0 hL hP
  exact ⟨N, gs', d, sl', t', q', h1, h2, h3, h4⟩

/-- A receive finds the channel closed and empty. -/
theorem beside_recv_closed {a a₂ : Goroutine} {w : World} {c cap s r : Nat} {tm blocking : Bool} {shape : CommShape} {z : Value} {gs : Array Goroutine} {sl : Option (Nat × Nat)} {t : Trace} {q : Nat → Nat}
    (hrun : a.status = .running) (hst : ∀ d, stepG P true a (w.at d) = .comm a₂ #[rcase c z] blocking shape (w.at d) #[]) (hc : w.heap[c]? = some (.chan cap #[] true s r tm)) (hcB : c < B)
    (h0 : gs[0]? = some a) (hL : Leavers P t gs q) (hP : Past Shun B t) :
    ∃ (N : Nat) (gs' : Array Goroutine) (d : Nat) (sl' : Option (Nat × Nat)) (t' : Trace) (q' : Nat → Nat),
      runNT P N (crowd gs w sl) t = (.next (crowd gs' (w.at d) sl'), t') ∧ gs'[0]? = some (a₂.finishComm P #[rcase c z] shape 0 z false) ∧ Leavers P t' gs' q' ∧ Past Shun B t' := by
  have hmem : ∀ op ∈ #[({ g := 0, fn := a₂.frame.fn, pos := a₂.frame.place, act := .recvClosed c } : MemOp)], op.g = 0 ∧ op.act.touch? = none ∧ op.act.low B ∧ (∀ m, op.act ≠ .mark m) := by
    intro op hop
    simp only [List.mem_toArray, List.mem_cons, List.not_mem_nil, or_false] at hop
    subst hop
    exact ⟨rfl, rfl, hcB, fun _ => by simp⟩
  obtain ⟨N, gs', d, sl', t', q', h1, _, h2, h3, h4⟩ := beside_turn (w := w) (W' := fun d => w.at d) hrun
    (fun d gs₁ sl₁ hg hs => by
      have := crowd_recv_closed (P := P) (sl := sl₁) (i := 0) hg (by simpa using hst d) (show (w.at d).heap[c]? = _ from hc) (no_partners0 hg hs)
      rw [show MemOp.ofEvents 0 a.frame.fn a.frame.place #[] = #[] from rfl, Array.empty_append] at this
      exact this) (fun op hop => (hmem op hop).1) (fun op hop => (hmem op hop).2.1)
    (fun t => Go.ConcN.Deaf_still t 0 _ fun op hop => ⟨(hmem op hop).2.2.2 _, (hmem op hop).2.2.2 _⟩) (fun op hop => (hmem op hop).2.2.1) _ gs w.drawn sl t q (Nat.le_refl _) h0 hL hP
  exact ⟨N, gs', d, sl', t', q', h1, h2, h3, h4⟩
end

end Go.Proofs.Ytnndfgceehfiiaa
