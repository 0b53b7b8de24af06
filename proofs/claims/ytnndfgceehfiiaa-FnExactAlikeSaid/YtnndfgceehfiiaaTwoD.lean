/-
  Two senders and their starter: the starter's step; and from the second go statement's machine to the join: all others only leave, the channel has both values.
-/
import Derived.Test.YtnndfgceehfiiaaTwoC
namespace Go.Proofs.Ytnndfgceehfiiaa
open Go.Conc Go.ConcN
open Go.ConcR (KK WgAt stA smA rd wr mk Payload DC0 Bk g_of_ofEvents ofEvent_mk)

theorem low_some (x : MemAct) : ∃ B, x.low B := by
  cases x with
  | access e =>
    obtain ⟨loc, a, b⟩ := e
    cases loc with
    | cell a => exact ⟨a.block + 1, Nat.lt_succ_self _⟩
    | obj r => exact ⟨r + 1, Nat.lt_succ_self _⟩
    | output => exact ⟨0, trivial⟩
    | goroutines => exact ⟨0, trivial⟩
    | mark m => exact ⟨0, trivial⟩
  | mark m =>
    cases m with
    | acquire a => exact ⟨a.block + 1, Nat.lt_succ_self _⟩
    | release a => exact ⟨a.block + 1, Nat.lt_succ_self _⟩
    | releaseMerge a => exact ⟨a.block + 1, Nat.lt_succ_self _⟩
    | read a => exact ⟨a.block + 1, Nat.lt_succ_self _⟩
    | write a => exact ⟨a.block + 1, Nat.lt_succ_self _⟩
    | disable => exact ⟨0, trivial⟩
    | enable => exact ⟨0, trivial⟩
    | extern f => exact ⟨0, trivial⟩
    | noRoom => exact ⟨0, trivial⟩
  | go _ => exact ⟨0, trivial⟩
  | start => exact ⟨0, trivial⟩
  | send c _ => exact ⟨c + 1, Nat.lt_succ_self _⟩
  | sendDone c _ => exact ⟨c + 1, Nat.lt_succ_self _⟩
  | recv c _ _ => exact ⟨c + 1, Nat.lt_succ_self _⟩
  | recvDone c _ => exact ⟨c + 1, Nat.lt_succ_self _⟩
  | close c => exact ⟨c + 1, Nat.lt_succ_self _⟩
  | recvClosed c => exact ⟨c + 1, Nat.lt_succ_self _⟩
/-- A trace is finite: the addresses that it names lie below something. -/
theorem trace_low (t : Trace) : ∃ B, ∀ op ∈ t, op.act.low B := by
  obtain ⟨l⟩ := t
  induction l with
  | nil => exact ⟨0, by simp⟩
  | cons x l ih =>
    obtain ⟨B, hB⟩ := ih
    obtain ⟨B', hB'⟩ := low_some x.act
    refine ⟨max B B', fun op hop => ?_⟩
    simp only [List.mem_toArray, List.mem_cons] at hop hB
    rcases hop with rfl | hop
    · exact MemAct.low_mono (Nat.le_max_right _ _) hB'
    · exact MemAct.low_mono (Nat.le_max_left _ _) (hB op hop)

theorem dp_size {w w' : World} {Low : Nat} (h : ∀ b, b < Low → w'.heap[b]? = w.heap[b]?) (hs : w.heap.size < Low) : w'.heap.size = w.heap.size := by
  have h1 : w'.heap.size ≤ w.heap.size := by
    refine Nat.le_of_not_lt fun hlt => ?_
    have := h _ hs
    rw [Array.getElem?_eq_none (Nat.le_refl _), Array.getElem?_eq_getElem hlt] at this
    cases this
  have h2 : w.heap.size ≤ w'.heap.size := by
    refine Nat.le_of_not_lt fun hlt => ?_
    have := h w'.heap.size (by omega)
    rw [Array.getElem?_eq_none (Nat.le_refl _), Array.getElem?_eq_getElem hlt] at this
    cases this
  omega

/-- Behind every worker's release the starter has taken them: what it does not know are atomic touches of the group's cells. -/
theorem past_of_acq {Wg : Nat} {t : Trace} {q : Nat} (hct : CT (ShN Wg) Own0 (Rd0 Wg) t 2) (hat : AtomWg Wg t) (hn : NoRelease (stA Wg) t)
    (hq : t.act? q = some (.mark (.acquire (stA Wg)))) (hg : t.g? q = some 0) (hh : t.heard q) (hrel : ∀ i, i < 2 → ∃ r, RelBy (stA Wg) t (i + 1) r ∧ r < q) (hd : Deaf t 0 = 0) : ∃ B, Past (ShN Wg) B t := by
  have hall : ∀ i g, t.g? i = some g → g ≠ 0 → ∃ r, RelBy (stA Wg) t g r ∧ r < q := by
    intro i g hgi hne
    obtain ⟨op, ho, rfl⟩ := Option.map_eq_some_iff.1 hgi
    have := hct.gs i op ho
    have := hrel (op.g - 1) (by omega)
    rwa [show op.g - 1 + 1 = op.g by omega] at this
  obtain ⟨B, hB⟩ := trace_low t
  refine ⟨B, hct.nr, fun i x hx hm => ?_, handedOver_all hall hn hq hg hh, hd, hB⟩
  obtain ⟨op, ho, hox⟩ := touch_of hx
  by_cases h0 : op.g = 0
  · have := knows_own ho
    rw [h0] at this
    exact .inl this
  · have hgi : t.g? i = some op.g := by simp [Trace.g?, ho]
    obtain ⟨r, hr, hrq⟩ := hall i op.g hgi h0
    have edge : HappensBefore t r q := .single (.inr ⟨.marked hrq (.inr hr.act) hq (fun k _ _ => hn k), hr.heard, hh⟩)
    obtain ⟨z, hz, hzg⟩ := Option.map_eq_some_iff.1 hg
    rcases Nat.lt_trichotomy i r with hlt | rfl | hgt
    · exact .inl ⟨q, z, hz, hzg, .inr (.trans (.single (.inl ⟨hlt, op.g, hgi, hr.g⟩)) edge)⟩
    · exact .inl ⟨q, z, hz, hzg, .inr edge⟩
    · have hnc := hr.after i hgt hgi
      have hk : x.kind = .atomic := Classical.byContradiction fun hk => hnc ⟨x, hx, hm, .inl hk⟩
      exact .inr ⟨hat i op x ho h0 hox hk, hk⟩

variable [Payload]

section
variable (P : Program) (Wg Ch C Low : Nat) (K : Goroutine → World → Prop) (val : Nat → Value)
/-- Behind the join. -/
def Done2 (m : Machine) (t : Trace) : Prop :=
  ∃ (gs : Array Goroutine) (w : World) (sl : Option (Nat × Nat)) (a : Goroutine) (q : Nat → Nat) (B : Nat), m = crowd gs w sl ∧ gs[0]? = some a ∧ K a w ∧ PayAt C 3 w ∧
    (ChAt Ch w #[val 0, val 1] ∨ ChAt Ch w #[val 1, val 0]) ∧ w.heap.size < Low ∧ Leavers P t gs q ∧ Past (ShN Wg) B t
end

section
variable {P : Program} {ty : TypeId} {Wg Ch C N Low : Nat} {K AnchW : Goroutine → World → Prop} {val : Nat → Value} {zv : Value} {M : Nat}
  {gs : Array Goroutine} {w w' : World} {sl : Option (Nat × Nat)} {j : Nat} {D : Nat → WD} {tag tag' : CTag} {f0 f' d0 : Nat} {a a' : Goroutine} {t : Trace} {st sm st' sm' : Int} {es : Array Event}

/-- An idle step of the starter's. -/
theorem idleC2 (G : Geo2 Wg Ch C N) (ha : gs[0]? = some a) (hcom : Com2 P ty Wg Ch C N Low val zv M j gs w t D d0) (hwg : WgAt ty Wg w st sm) (hmode : Go.ConcN.Mode j (cap7 D) tag st sm)
    (hgo : stepG P true a w = .go a' w' es) (hD : DP Wg Own0 (Rd0 Wg) j Low w w' es) (hcs' : CS P ty Wg Ch C N Low K AnchW (val 1) zv M tag j f' d0 a' w') (hf : f' < f0) :
    ∃ m₁ ops μ', runT P (crowd gs w sl) 0 = (.next m₁, ops) ∧ Lt2 μ' (phi 2 (Vc j (cap7 D)) tag + Ssum j D, f0 + 2 * Fsum j D) ∧ Inv2 P ty Wg Ch C N Low K AnchW val zv M μ' m₁ (t ++ ops) := by
  obtain ⟨hlow, hev⟩ := hD
  have hr := hcom.room
  have hb := hcom.base
  have g1 := G.cCh; have g2 := G.chW; have g3 := G.wN
  have hsz := dp_size hlow (by omega)
  obtain ⟨cs, hc1, hc2⟩ := hcom.pay
  have hdf : deafBehind d0 es = d0 := deafBehind_idle (fun e he => ⟨(hev e he).2.1, (hev e he).2.2.1⟩) d0
  exact callerGo G ha hcom hgo (fun i _ => RGW.of_old G hb (Nat.le_of_eq hsz.symm) (fun b hb => hlow b (by omega))) (ok0_of_Ev0 hev) (fun e he => (hev e he).2.2.2) ⟨cs, (hlow C (by omega)).trans hc1, hc2⟩ (hlow Ch (by omega)) hsz (by rw [hdf]; exact hcs') (hwg.of_block (hlow Wg (by omega))) hmode
    (.inr ⟨rfl, hf⟩)

/-- A step of the library's bookkeeping, by the starter. -/
theorem bookC2 (G : Geo2 Wg Ch C N) (ha : gs[0]? = some a) (hcom : Com2 P ty Wg Ch C N Low val zv M j gs w t D d0)
    (hgo : stepG P true a w = .go a' w' es) (hAs : Aside Wg w w') (hwg' : WgAt ty Wg w' st' sm') (hbk : ∀ e ∈ es, Bk Wg e) (hcs' : CS P ty Wg Ch C N Low K AnchW (val 1) zv M tag' j f' (deafBehind d0 es) a' w')
    (hmode' : Go.ConcN.Mode j (cap7 D) tag' st' sm') (hlt : phi 2 (Vc j (cap7 D)) tag' < phi 2 (Vc j (cap7 D)) tag ∨ (phi 2 (Vc j (cap7 D)) tag' = phi 2 (Vc j (cap7 D)) tag ∧ f' < f0)) :
    ∃ m₁ ops μ', runT P (crowd gs w sl) 0 = (.next m₁, ops) ∧ Lt2 μ' (phi 2 (Vc j (cap7 D)) tag + Ssum j D, f0 + 2 * Fsum j D) ∧ Inv2 P ty Wg Ch C N Low K AnchW val zv M μ' m₁ (t ++ ops) := by
  obtain ⟨cs, hc1, hc2⟩ := hcom.pay
  have gC : C ≠ Wg := by have := G.cCh; have := G.chW; omega
  have gCh : Ch ≠ Wg := by have := G.chW; omega
  exact callerGo G ha hcom hgo (fun i _ => RGW.of_wg G hAs ⟨_, _, hwg'⟩) (ok0_of_Bk hbk) (norel_of_Bk hbk) ⟨cs, (hAs.block C gC).trans hc1, hc2⟩ (hAs.block Ch gCh) hAs.size hcs' hwg' hmode' hlt

/-- The load in Wait. -/
theorem w1Step2 (G : Geo2 Wg Ch C N) (ha : gs[0]? = some a) (hcom : Com2 P ty Wg Ch C N Low val zv M 2 gs w t D 1) (hwg : WgAt ty Wg w st sm) (hmode : Go.ConcN.Mode 2 (cap7 D) .w1 st sm)
    (h : Goes P true (RS ty Wg Ch C N) (DP Wg Own0 (Rd0 Wg) 2 Low) (SW1 P ty Wg Ch C N Low K AnchW) f0 a w) :
    ∃ m₁ ops μ', runT P (crowd gs w sl) 0 = (.next m₁, ops) ∧ Lt2 μ' (phi 2 (Vc 2 (cap7 D)) .w1 + Ssum 2 D, f0 + 2 * Fsum 2 D) ∧ Inv2 P ty Wg Ch C N Low K AnchW val zv M μ' m₁ (t ++ ops) := by
  rcases Goes.cases h with hstop | ⟨m', rfl, hstep⟩
  · obtain ⟨_, hall⟩ := hstop w (.refl w)
    obtain ⟨ho, rfl, rfl, _⟩ := hmode.open_inv trivial
    have hV := Vc_le 2 (cap7 D)
    obtain ⟨a', hgo, h0, hne⟩ := hall (Vc 2 (cap7 D)) (by omega) (by simpa [pend] using hwg)
    by_cases hv : Vc 2 (cap7 D) = 0
    · obtain ⟨m₂, hk⟩ := h0 hv
      refine bookC2 G ha hcom hgo (.refl Wg w) hwg bk_rd (tag' := .ke) ⟨rfl, rfl, hk⟩ ?_ (.inl (by simp only [phi]; omega))
      have e : ((Vc 2 (cap7 D) + pend .w1 : Nat) : Int) * KK = 0 := by rw [hv]; simp [pend]
      rw [e]
      exact .fin trivial (allQuit_of ho hv)
    · obtain ⟨m₂, hk⟩ := hne hv
      exact bookC2 G ha hcom hgo (.refl Wg w) hwg bk_rd (tag' := .w2 (Vc 2 (cap7 D))) ⟨rfl, rfl, hk⟩ (hmode.reopen trivial trivial rfl (fun vs e => by cases e; omega)) (.inl (by simp only [phi]; omega))
  · obtain ⟨a', w', es, hgo, hD, hg'⟩ := hstep w (.refl w)
    exact idleC2 G ha hcom hwg hmode hgo hD ⟨rfl, rfl, hg'⟩ (by omega)

set_option maxHeartbeats 1600000 in
theorem stepC2 (G : Geo2 Wg Ch C N)
    (hAn : ∀ g w, AnchW g w → ∃ m, Goes P true (RS ty Wg Ch C N) (DP Wg Own0 (Rd0 Wg) 2 Low) (SW1 P ty Wg Ch C N Low K AnchW) m g w)
    (ha : gs[0]? = some a) (hcs : CS P ty Wg Ch C N Low K AnchW (val 1) zv M tag j f0 d0 a w) (hcom : Com2 P ty Wg Ch C N Low val zv M j gs w t D d0) (hwg : WgAt ty Wg w st sm) (hmode : Go.ConcN.Mode j (cap7 D) tag st sm) (hrun : a.status = .running) :
    (∃ m₁ ops, runT P (crowd gs w sl) 0 = (.next m₁, ops) ∧ Done2 P Wg Ch C Low K val m₁ (t ++ ops)) ∨
    (∃ m₁ ops μ', runT P (crowd gs w sl) 0 = (.next m₁, ops) ∧ Lt2 μ' (phi 2 (Vc j (cap7 D)) tag + Ssum j D, f0 + 2 * Fsum j D) ∧ Inv2 P ty Wg Ch C N Low K AnchW val zv M μ' m₁ (t ++ ops)) := by
  have hVj := Vc_le j (cap7 D)
  cases tag with
  | sp r s =>
    obtain ⟨rfl, rfl, rfl, rfl, h⟩ := hcs
    rcases Goes.cases h with hstop | ⟨m', rfl, hstep⟩
    · obtain ⟨_, a', child, hsp, hwk, m₂, hnext⟩ := hstop w (.refl w)
      obtain ⟨ho, rfl, rfl, _⟩ := hmode.open_inv trivial
      have hrun' := runT_crowd_spawn (P := P) (sl := sl) (i := 0) ha (by simpa using hsp)
      rw [hcom.size] at hrun'
      have hlate := hcom.late rfl
      have hcom' := hcom.spawn (a' := a') (x := { g := 0, fn := a.frame.fn, pos := a.frame.place, act := .go 2 }) (y := { g := 2, fn := child.frame.fn, pos := a.frame.place, act := .start }) ⟨rfl, rfl⟩ ⟨rfl, rfl⟩ hwk
      have eV : Vc 2 (cap7 (upd D 1 ⟨8, M, 0⟩)) = Vc 1 (cap7 D) + 1 := by
        rw [cap7_upd]
        simp only [Vc, sumTo, upd_same, upd_ne (cap7 D) _ (show (0 : Nat) ≠ 1 by decide)]
        rfl
      have eS : Ssum 2 (upd D 1 ⟨8, M, 0⟩) = Ssum 1 D + 8 := by
        simp only [Ssum, sumTo, upd_same, upd_ne D _ (show (0 : Nat) ≠ 1 by decide)]
      have ho' : OpenSt 2 (cap7 (upd D 1 ⟨8, M, 0⟩)) := fun i hi => by
        rw [cap7_upd]
        by_cases e : i = 1
        · subst e; rw [upd_same]; simp
        · rw [upd_ne _ _ e]; exact ho i (by omega)
      have ha' : ((gs.setIfInBounds 0 a').push child)[0]? = some a' := by
        rw [Array.getElem?_push_lt (by simp [hcom.size]), ← Array.getElem?_eq_getElem]
        simp [hcom.size]
      have hm' : Go.ConcN.Mode 2 (cap7 (upd D 1 ⟨8, M, 0⟩)) .kd (((Vc 1 (cap7 D) + pend (.sp 0 2) : Nat) : Int) * KK) 0 := by
        have := Go.ConcN.Mode.opn (j := 2) (D := cap7 (upd D 1 ⟨8, M, 0⟩)) (tag := .kd) trivial ho' (by simp)
        rw [eV] at this
        exact this
      refine .inr ⟨_, _, (phi 2 (Vc 2 (cap7 (upd D 1 ⟨8, M, 0⟩))) .kd + Ssum 2 (upd D 1 ⟨8, M, 0⟩), m₂ + 2 * Fsum 2 (upd D 1 ⟨8, M, 0⟩)), hrun', ?_, _, w, sl, 2, upd D 1 ⟨8, M, 0⟩, .kd, m₂, 0, a', _, _, rfl, ha', ⟨rfl, rfl, hnext⟩, ?_, hwg, hm', rfl⟩
      · exact Prod.Lex.left _ _ (by rw [eS]; simp only [phi]; omega)
      · exact hcom'
    · obtain ⟨a', w', es, hgo, hD, hg'⟩ := hstep w (.refl w)
      exact .inr (idleC2 G ha hcom hwg hmode hgo hD ⟨rfl, rfl, rfl, rfl, hg'⟩ (by omega))
  | kd =>
    obtain ⟨rfl, rfl, h⟩ := hcs
    rcases Goes.cases h with hstop | ⟨m', rfl, hstep⟩
    · obtain ⟨_, a', hgo, m₂, hk⟩ := hstop w (.refl w)
      exact .inr (bookC2 G ha hcom hgo (.refl Wg w) hwg bk_dis (tag' := .anch) ⟨rfl, rfl, hk⟩ (hmode.reopen trivial trivial rfl (by simp)) (.inl (by simp only [phi]; omega)))
    · obtain ⟨a', w', es, hgo, hD, hg'⟩ := hstep w (.refl w)
      exact .inr (idleC2 G ha hcom hwg hmode hgo hD ⟨rfl, rfl, hg'⟩ (by omega))
  | anch =>
    obtain ⟨rfl, rfl, h⟩ := hcs
    rcases Goes.cases h with hstop | ⟨m', rfl, hstep⟩
    · obtain ⟨m₂, hk⟩ := hAn a w (hstop w (.refl w))
      obtain ⟨m₁, ops, μ', h1, h2, h3⟩ := w1Step2 (sl := sl) G ha hcom hwg (hmode.reopen trivial trivial rfl (by simp)) hk
      exact .inr ⟨m₁, ops, μ', h1, lt2_trans h2 (Prod.Lex.left _ _ (by simp only [phi]; omega)), h3⟩
    · obtain ⟨a', w', es, hgo, hD, hg'⟩ := hstep w (.refl w)
      exact .inr (idleC2 G ha hcom hwg hmode hgo hD ⟨rfl, rfl, hg'⟩ (by omega))
  | w1 =>
    obtain ⟨rfl, rfl, h⟩ := hcs
    exact .inr (w1Step2 G ha hcom hwg hmode h)
  | w2 vs =>
    obtain ⟨rfl, rfl, h⟩ := hcs
    rcases Goes.cases h with hstop | ⟨m', rfl, hstep⟩
    · obtain ⟨_, hall⟩ := hstop w (.refl w)
      obtain ⟨ho, rfl, rfl, hw2⟩ := hmode.open_inv trivial
      obtain ⟨hle, h1⟩ := hw2 vs rfl
      obtain ⟨hhit, hmiss⟩ := hall (Vc 2 (cap7 D)) (by omega) (by simpa [pend] using hwg)
      by_cases e : Vc 2 (cap7 D) = vs
      · obtain ⟨a', hgo, m₂, hk⟩ := hhit e
        exact .inr (bookC2 G ha hcom hgo (aside_setCell w (stA Wg) _) (hwg.setSt _) bk_rw (tag' := .w3) (f' := m₂ + 1) ⟨rfl, rfl, m₂, rfl, hk⟩ (.reg trivial ho (by omega)) (.inl (by simp only [phi]; omega)))
      · obtain ⟨a', hgo, m₂, hk⟩ := hmiss e
        exact .inr (bookC2 G ha hcom hgo (.refl Wg w) hwg bk_rd (tag' := .anch) ⟨rfl, rfl, hk⟩ (hmode.reopen trivial trivial rfl (by simp)) (.inl (by simp only [phi]; omega)))
    · obtain ⟨a', w', es, hgo, hD, hg'⟩ := hstep w (.refl w)
      exact .inr (idleC2 G ha hcom hwg hmode hgo hD ⟨rfl, rfl, hg'⟩ (by omega))
  | w3 =>
    obtain ⟨rfl, rfl, m, rfl, h⟩ := hcs
    rcases Goes.cases h with hstop | ⟨m', rfl, hstep⟩
    · obtain ⟨_, hoff, hblk, htake⟩ := hstop w (.refl w)
      cases hmode with
      | opn h1 _ _ => exact h1.elim
      | reg h1 h2 h3 => exact .inr (bookC2 G ha hcom (hblk ⟨_, hwg⟩) (.refl Wg w) hwg (by simp) (tag' := .blk) ⟨rfl, rfl, rfl, a, rfl, hstop⟩ (.reg trivial h2 h3) (.inr ⟨rfl, by omega⟩))
      | last L h1 h2 h3 h4 => exact .inr (bookC2 G ha hcom (hblk ⟨_, hwg⟩) (.refl Wg w) hwg (by simp) (tag' := .blk) ⟨rfl, rfl, rfl, a, rfl, hstop⟩ (.last L trivial h2 h3 h4) (.inr ⟨rfl, by omega⟩))
      | sema h2 =>
        obtain ⟨a', hgo, m₂, hk⟩ := htake hwg
        exact .inr (bookC2 G ha hcom hgo (aside_setCell w (smA Wg) _) (hwg.setSm 0) bk_sem (tag' := .w4) ⟨rfl, rfl, hk⟩ (.fin trivial h2) (.inl (by simp only [phi]; omega)))
      | fin h1 _ => exact h1.elim
    · obtain ⟨a', w', es, hgo, hD, hg'⟩ := hstep w (.refl w)
      exact .inr (idleC2 G ha hcom hwg hmode hgo hD ⟨rfl, rfl, m', rfl, hg'⟩ (by omega))
  | blk =>
    obtain ⟨_, _, _, g, rfl, _⟩ := hcs
    simp at hrun
  | w4 =>
    obtain ⟨rfl, rfl, h⟩ := hcs
    rcases Goes.cases h with hstop | ⟨m', rfl, hstep⟩
    · obtain ⟨_, hx⟩ := hstop w (.refl w)
      obtain ⟨hq, rfl, rfl⟩ := hmode.fin_inv trivial
      obtain ⟨a', hgo, m₂, hk⟩ := hx hwg
      exact .inr (bookC2 G ha hcom hgo (.refl Wg w) hwg bk_rd (tag' := .ke) ⟨rfl, rfl, hk⟩ (.fin trivial hq) (.inl (by simp only [phi]; omega)))
    · obtain ⟨a', w', es, hgo, hD, hg'⟩ := hstep w (.refl w)
      exact .inr (idleC2 G ha hcom hwg hmode hgo hD ⟨rfl, rfl, hg'⟩ (by omega))
  | ke =>
    obtain ⟨rfl, rfl, h⟩ := hcs
    rcases Goes.cases h with hstop | ⟨m', rfl, hstep⟩
    · obtain ⟨_, a', hgo, m₂, hk⟩ := hstop w (.refl w)
      obtain ⟨hq, rfl, rfl⟩ := hmode.fin_inv trivial
      exact .inr (bookC2 G ha hcom hgo (.refl Wg w) hwg bk_en (tag' := .acq) ⟨rfl, rfl, hk⟩ (.fin trivial hq) (.inl (by simp only [phi]; omega)))
    · obtain ⟨a', w', es, hgo, hD, hg'⟩ := hstep w (.refl w)
      exact .inr (idleC2 G ha hcom hwg hmode hgo hD ⟨rfl, rfl, hg'⟩ (by omega))
  | acq =>
    obtain ⟨rfl, rfl, h⟩ := hcs
    rcases Goes.cases h with hstop | ⟨m', rfl, hstep⟩
    · obtain ⟨_, a', hgo, hk⟩ := hstop w (.refl w)
      obtain ⟨hq, rfl, rfl⟩ := hmode.fin_inv trivial
      have hst1 : ∀ i, i < 2 → (D i).stage = 1 := fun i hi => by have := hq i hi; simp only [cap7] at this; omega
      have hrunT := runT_crowd_go (P := P) (sl := sl) (i := 0) ha (by simpa using hgo)
      have hcom' := hcom.step0 G (a := a) (a' := a') (fn := a.frame.fn) (pos := a.frame.place) (es := #[mk (.acquire (stA Wg))]) (fun i _ => RGW.refl w) (ok0_none (by intro e he; simp at he; subst he; rfl)) (by intro e he; simp at he; subst he; simp [mk]) hcom.pay rfl rfl
      have e1 : MemOp.ofEvents 0 a.frame.fn a.frame.place #[mk (.acquire (stA Wg))] = #[{ g := 0, fn := a.frame.fn, pos := a.frame.place, act := .mark (.acquire (stA Wg)) }] := by rw [ofEvents_eq]; simp [ofEvent_mk]
      have hy : (t ++ #[({ g := 0, fn := a.frame.fn, pos := a.frame.place, act := .mark (.acquire (stA Wg)) } : MemOp)])[t.size]? = some { g := 0, fn := a.frame.fn, pos := a.frame.place, act := .mark (.acquire (stA Wg)) } := by simp
      have hdz : Deaf (t ++ MemOp.ofEvents 0 a.frame.fn a.frame.place #[mk (.acquire (stA Wg))]) 0 = 0 := hcom'.deaf0
      obtain ⟨B, hP⟩ := past_of_acq (q := t.size) hcom'.ct hcom'.atom hcom'.norel (by rw [e1, act?_of hy]) (by rw [e1]; simp [Trace.g?]) (by rw [e1]; exact ⟨0, by simp [Trace.g?], by rw [deaf_old (Nat.le_refl _)]; exact hcom.deaf0⟩) (fun i hi => by
        obtain ⟨r, hr⟩ := hcom.rel i hi (by rw [hst1 i hi]; omega)
        exact ⟨r, hr.appOther g_of_ofEvents (by omega), lt_of_act? hr.act⟩) hdz
      obtain ⟨buf, hbuf, hbo⟩ := hcom.ch
      refine .inl ⟨_, _, hrunT, _, w, sl, a', fun i => (D (i - 1)).fuel, B, rfl, get_map_set_same _ _ _ (by rw [hcom.size]; omega), hk, hcom.pay, ?_, (by have := hcom.room; omega), ⟨fun i g hi hg => ?_, fun jx hj => ?_⟩, hP⟩
      · rw [hst1 0 (by omega), hst1 1 (by omega)] at hbo
        rcases hbo with ⟨h1, _⟩ | ⟨_, h1, _⟩ | ⟨h1, _⟩ | ⟨_, _, rfl | rfl⟩
        · omega
        · omega
        · omega
        · exact .inl hbuf
        · exact .inr hbuf
      · obtain ⟨i', rfl⟩ : ∃ i', i = i' + 1 := ⟨i - 1, by omega⟩
        have hlt : i' < 2 := by have := (Array.getElem?_eq_some_iff.1 hg).1; simp [hcom.size] at this; omega
        obtain ⟨g', hg', hs'⟩ := hcom'.wk i' hlt
        rw [hg] at hg'
        cases hg'
        rw [hcom'.deafW i' hlt, Nat.add_sub_cancel]
        rcases hs' with ⟨h8, _⟩ | hs'
        · rw [hst1 i' hlt] at h8; cases h8
        · exact hs'.quits (hst1 i' hlt)
      · have hj3 : 3 ≤ jx := by simpa [hcom.size] using hj
        exact Deaf_absent fun b op hb e => by have := hcom'.ct.gs b op hb; omega
    · obtain ⟨a', w', es, hgo, hD, hg'⟩ := hstep w (.refl w)
      exact .inr (idleC2 G ha hcom hwg hmode hgo hD ⟨rfl, rfl, hg'⟩ (by omega))
  | ret => exact hcs.elim

/-- No deadlock. -/
theorem someone2 (hAr : ∀ g w, AnchW g w → g.status = .running) (ha : gs[0]? = some a) (hcs : CS P ty Wg Ch C N Low K AnchW (val 1) zv M tag j f0 d0 a w) (hcom : Com2 P ty Wg Ch C N Low val zv M j gs w t D d0) (hmode : Go.ConcN.Mode j (cap7 D) tag st sm) :
    ∃ (i : Nat) (g : Goroutine), gs[i]? = some g ∧ g.status = .running := by
  have up : ∀ i, i < j → (cap7 D i).stage ≠ 1 → ∃ (i : Nat) (g : Goroutine), gs[i]? = some g ∧ g.status = .running := fun i hi h1 => by
    obtain ⟨g, hg, hs⟩ := hcom.wk i hi
    exact ⟨i + 1, g, hg, hs.running_of (by simp only [cap7] at h1; omega)⟩
  rcases hcs.status hAr with ⟨hs, _⟩ | ⟨_, rfl⟩
  · exact ⟨0, a, ha, hs⟩
  · cases hmode with
    | opn h1 _ _ => exact h1.elim
    | reg _ _ h3 =>
      refine Classical.byContradiction fun hno => ?_
      have : Vc j (cap7 D) = 0 := by
        have h0 : ∀ i, i < j → cnt (cap7 D i) = 0 := fun i hi => by
          have : (cap7 D i).stage = 1 := Classical.byContradiction fun h1 => hno (up i hi h1)
          simp [cnt, this]
        have := sumTo_le (f := fun i => cnt (cap7 D i)) (c := 0) (j := j) fun i hi => by rw [h0 i hi]; exact Nat.le_refl _
        simpa [Vc] using this
      omega
    | last L _ h2 h3 _ => exact up L h2 (by omega)
    | fin h1 _ => exact h1.elim

theorem awake2 (hAr : ∀ g w, AnchW g w → g.status = .running) (ha : gs[0]? = some a) (hcs : CS P ty Wg Ch C N Low K AnchW (val 1) zv M tag j f0 d0 a w) (hcom : Com2 P ty Wg Ch C N Low val zv M j gs w t D d0) : ∀ g ∈ gs, awake g := by
  intro g hg tm
  obtain ⟨i, hi⟩ := Array.mem_iff_getElem?.1 hg
  cases i with
  | zero =>
    rw [ha] at hi; cases hi
    rcases hcs.status hAr with ⟨hs, _⟩ | ⟨hs, _⟩ <;> rw [hs] <;> simp
  | succ i =>
    have hlt : i < j := by have := (Array.getElem?_eq_some_iff.1 hi).1; rw [hcom.size] at this; omega
    obtain ⟨g', hg', hs⟩ := hcom.wk i hlt
    rw [hi] at hg'; cases hg'
    rcases hs.status with h | h <;> rw [h] <;> simp
end

section
variable {P : Program} {ty : TypeId} {Wg Ch C N Low : Nat} {K AnchW : Goroutine → World → Prop} {val : Nat → Value} {zv : Value} {M : Nat}
/-- From the first go statement on, on whatever tape: the machine comes behind the join. -/
theorem two_runs (G : Geo2 Wg Ch C N) (hAr : ∀ g w, AnchW g w → g.status = .running)
    (hAn : ∀ g w, AnchW g w → ∃ m, Goes P true (RS ty Wg Ch C N) (DP Wg Own0 (Rd0 Wg) 2 Low) (SW1 P ty Wg Ch C N Low K AnchW) m g w) :
    ∀ (μ : Nat × Nat) (m : Machine) (t : Trace), Inv2 P ty Wg Ch C N Low K AnchW val zv M μ m t → ∃ n m' t', runNT P n m t = (.next m', t') ∧ Done2 P Wg Ch C Low K val m' t' := by
  intro μ
  induction μ using (Prod.lex Nat.lt_wfRel Nat.lt_wfRel).wf.induction with
  | _ μ ih =>
    rintro m t ⟨gs, w, sl, j, D, tag, f0, d0, a, st, sm, rfl, ha, hcs, hcom, hwg, hmode, rfl⟩
    obtain ⟨i, g, d, sl', hg, hrun, hstep⟩ := crowd_pick (P := P) (w := w) (sl := sl) (awake2 hAr ha hcs hcom) (someone2 hAr ha hcs hcom hmode)
    have hcs' := hcs.rely (RS.at w d) (fun _ => rfl)
    have hcom' := hcom.at G d
    have hwg' : WgAt ty Wg (w.at d) st sm := hwg
    have next : ∀ {m₁ : Machine} {ops : Array MemOp} {μ' : Nat × Nat}, stepT P (crowd gs w sl) = (.next m₁, ops) → Lt2 μ' (phi 2 (Vc j (cap7 D)) tag + Ssum j D, f0 + 2 * Fsum j D) → Inv2 P ty Wg Ch C N Low K AnchW val zv M μ' m₁ (t ++ ops) →
        ∃ n m' t', runNT P n (crowd gs w sl) t = (.next m', t') ∧ Done2 P Wg Ch C Low K val m' t' := by
      intro m₁ ops μ' h1 h2 h3
      obtain ⟨n, m', t', h4, h5⟩ := ih μ' h2 m₁ (t ++ ops) h3
      exact ⟨n + 1, m', t', by simp only [runNT, h1]; exact h4, h5⟩
    cases i with
    | zero =>
      rw [ha] at hg; cases hg
      rcases stepC2 (sl := sl') G hAn ha hcs' hcom' hwg' hmode hrun with ⟨m₁, ops, h1, h2⟩ | ⟨m₁, ops, μ', h1, h2, h3⟩
      · exact ⟨1, m₁, t ++ ops, by simp only [runNT, hstep, h1], h2⟩
      · exact next (hstep.trans h1) h2 h3
    | succ i =>
      have hi : i < j := by have := (Array.getElem?_eq_some_iff.1 hg).1; rw [hcom.size] at this; omega
      obtain ⟨m₁, ops, μ', h1, h2, h3⟩ := stepW2 (sl := sl') G hAr ha hcs' hcom' hwg' hmode hi hg hrun
      exact next (hstep.trans h1) h2 h3
end

end Go.Proofs.Ytnndfgceehfiiaa
