/-
  Two senders and their starter: the starter's way, alone, up to the first go statement; and on to the join.
-/
import Derived.Test.YtnndfgceehfiiaaTwoD
import Derived.Conc.CrowdRun
namespace Go.Proofs.Ytnndfgceehfiiaa
open Go.Conc Go.ConcN
open Go.ConcR (KK WgAt stA smA rd wr mk Payload DC0 Bk g_of_ofEvents ofEvent_mk loc_of_ofEvent)

/-! ### one who walks alone -/
/-- What is held of the trace while the starter is alone. -/
structure Pre (Wg d : Nat) (t : Trace) : Prop where
  ct : CT (ShN Wg) Own0 (Rd0 Wg) t 0
  atom : AtomWg Wg t
  norel : NoRelease (stA Wg) t
  deaf : Deaf t 0 = d

theorem Pre.nil (Wg : Nat) : Pre Wg 0 #[] :=
  ⟨CT.lone (by simp) (by simp), fun i op x hi => by simp at hi, fun i hi => by simp [Trace.act?] at hi, rfl⟩

section
variable {Wg d : Nat} {t u : Trace}
theorem ev0_op {e : Event} (he : Ev0 Wg Own0 (Rd0 Wg) 0 e) {op : MemOp} (h0 : op.g = 0) (ha : op.act = .ofEvent e) : Ok0 (ShN Wg) Own0 (Rd0 Wg) 0 op := by
  obtain ⟨g, fn, pos, act⟩ := op
  simp only at h0 ha
  subst h0 ha
  exact he.1 fn pos
theorem ev0_act {e : Event} {op : MemOp} (ha : op.act = .ofEvent e) {m : Mark} (hm : e.loc ≠ .mark m) : op.act ≠ .mark m := fun h => hm (loc_of_ofEvent (ha ▸ h))
theorem Pre.app (h : Pre Wg d t) (hu : ∀ op ∈ u, op.g = 0 ∧ ∃ e, Ev0 Wg Own0 (Rd0 Wg) 0 e ∧ op.act = .ofEvent e) : Pre Wg d (t ++ u) := by
  refine ⟨h.ct.app0 (apart0 Wg) fun op hop => ?_, h.atom.app fun op hop hg => absurd (hu op hop).1 hg, h.norel.app fun op hop => ?_, ?_⟩
  · obtain ⟨h0, e, he, ha⟩ := hu op hop
    exact ev0_op he h0 ha
  · obtain ⟨h0, e, he, ha⟩ := hu op hop
    exact ev0_act ha he.2.2.2
  · rw [Go.ConcN.Deaf_still t 0 u fun op hop => ?_, h.deaf]
    obtain ⟨h0, e, he, ha⟩ := hu op hop
    exact ⟨ev0_act ha he.2.1, ev0_act ha he.2.2.1⟩
theorem Pre.mark (h : Pre Wg d t) {m : Mark} (hm : (MemAct.ofEvent (Go.ConcR.mk m)).touch? = none) (hr : m ≠ .release (stA Wg)) (fn : FuncId) (pos : String) : Pre Wg (deafBehind d #[Go.ConcR.mk m]) (t ++ MemOp.ofEvents 0 fn pos #[Go.ConcR.mk m]) := by
  have hop : ∀ op ∈ MemOp.ofEvents 0 fn pos #[Go.ConcR.mk m], op = { g := 0, fn, pos, act := .ofEvent (Go.ConcR.mk m) } := by
    intro op hop
    rw [ofEvents_eq] at hop
    simpa using hop
  refine ⟨h.ct.app0 (apart0 Wg) fun op ho => ?_, h.atom.app fun op ho hg => absurd (g_of_ofEvents op ho) hg, h.norel.app fun op ho => ?_, by rw [Deaf_own, h.deaf]⟩
  · rw [hop op ho]
    exact ⟨rfl, fun x hx => by rw [hm] at hx; cases hx⟩
  · rw [hop op ho]
    intro e
    have := loc_of_ofEvent (show MemAct.ofEvent (Go.ConcR.mk m) = .mark (.release (stA Wg)) from e)
    simp [Go.ConcR.mk] at this
    exact hr this
end

theorem solo_walk {P : Program} {Wg d : Nat} {Stop : Goroutine → World → Prop} {n : Nat} {a : Goroutine} {w : World} {t : Trace} (hp : Pre Wg d t) (h : Goes P true Eq (DE (Ev0 Wg Own0 (Rd0 Wg) 0)) Stop n a w) :
    ∃ k a' w' t', runNT P k (solo a w) t = (.next (solo a' w'), t') ∧ Stop a' w' ∧ Pre Wg d t' := by
  obtain ⟨k, a', w', u, hr, hs, hu⟩ := solo_goesE t h
  exact ⟨k, a', w', t ++ u, hr, hs, hp.app hu⟩

/-- It stands at a word of the library's. -/
def AtMk (P : Program) (m : Mark) (Next : Goroutine → World → Prop) (a : Goroutine) (w : World) : Prop := a.status = .running ∧ ∃ a', stepG P true a w = .go a' w #[mk m] ∧ Next a' w

theorem solo_mark {P : Program} {Wg d : Nat} {m : Mark} {Next : Goroutine → World → Prop} {a : Goroutine} {w : World} {t : Trace} (hp : Pre Wg d t) (hm : (MemAct.ofEvent (mk m)).touch? = none) (hr : m ≠ .release (stA Wg)) (h : AtMk P m Next a w) :
    ∃ k a' w' t', runNT P k (solo a w) t = (.next (solo a' w'), t') ∧ Next a' w' ∧ Pre Wg (deafBehind d #[mk m]) t' := by
  obtain ⟨hs, a', hgo, hn⟩ := h
  have h1 := runT_crowd_go (P := P) (gs := #[a]) (sl := none) (i := 0) (g := a) rfl (show stepG P (0 == 0) a w = _ from hgo)
  refine ⟨1, a', w, t ++ MemOp.ofEvents 0 a.frame.fn a.frame.place #[mk m], ?_, hn, hp.mark hm hr a.frame.fn a.frame.place⟩
  have h2 := (stepT_solo (P := P) (w := w) hs).trans h1
  simp only [runNT, h2]
  simp [solo_eq_crowd]

variable [Payload]
section
variable (P : Program) (ty : TypeId) (Wg Ch C N Low : Nat) (K AnchW : Goroutine → World → Prop) (val : Nat → Value) (zv : Value) (M : Nat)
/-- At the first go statement. -/
def AtGo1 (a : Goroutine) (w : World) : Prop := a.status = .running ∧ ∃ a' child, stepG P true a w = .spawn a' child w #[] ∧
  Goes P false (RGW ty Wg Ch C N 0) (DV Wg 1) (AtSnd P ty Wg Ch C 1 (val 0) zv) M child w ∧ (∃ m, Goes P true (RS1 ty Wg Ch C N) (DP Wg Own0 (Rd0 Wg) 1 Low) (SGo P ty Wg Ch C N Low AnchW (val 1) zv M) m a' w) ∧
  WgAt ty Wg w (2 * KK) 0 ∧ PayAt C 3 w ∧ ChAt Ch w #[] ∧ N ≤ w.heap.size ∧ w.heap.size + M + M < Low
end

section
variable {P : Program} {ty : TypeId} {Wg Ch C N Low : Nat} {K AnchW : Goroutine → World → Prop} {val : Nat → Value} {zv : Value} {M : Nat} {a : Goroutine} {w : World} {t : Trace}

/-- The first go statement. -/
theorem go_first (hp : Pre Wg 0 t) (h : AtGo1 P ty Wg Ch C N Low AnchW val zv M a w) : ∃ m₁ t₁ μ, runNT P 1 (solo a w) t = (.next m₁, t₁) ∧ Inv2 P ty Wg Ch C N Low K AnchW val zv M μ m₁ t₁ := by
  obtain ⟨hs, a', child, hsp, hc, ⟨m, hm⟩, hwg, hpay, hch, hbase, hroom⟩ := h
  have h1 := runT_crowd_spawn (P := P) (gs := #[a]) (sl := none) (i := 0) (g := a) rfl (show stepG P (0 == 0) a w = _ from hsp)
  have h2 := (stepT_solo (P := P) (w := w) hs).trans h1
  obtain ⟨D, hD⟩ : ∃ D : Nat → WD, D = fun i => if i = 0 then ⟨8, M, 0⟩ else ⟨9, M, 0⟩ := ⟨_, rfl⟩
  have hD0 : D 0 = ⟨8, M, 0⟩ := by rw [hD]; rfl
  have hD1 : D 1 = ⟨9, M, 0⟩ := by rw [hD]; rfl
  obtain ⟨x, hx⟩ : ∃ x : MemOp, x = { g := 0, fn := a.frame.fn, pos := a.frame.place, act := .go 1 } := ⟨_, rfl⟩
  obtain ⟨y, hy⟩ : ∃ y : MemOp, y = { g := 1, fn := child.frame.fn, pos := a.frame.place, act := .start } := ⟨_, rfl⟩
  have hx' : x.g = 0 ∧ x.act = .go (0 + 1) := by rw [hx]; exact ⟨rfl, rfl⟩
  have hy' : y.g = 0 + 1 ∧ y.act = .start := by rw [hy]; exact ⟨rfl, rfl⟩
  have hmem : ∀ op ∈ #[x, y], op = x ∨ op = y := by intro op hop; simpa using hop
  have hst : ∀ op ∈ #[x, y], op.act ≠ .mark .disable ∧ op.act ≠ .mark .enable := by
    intro op hop
    rcases hmem op hop with rfl | rfl
    · rw [hx'.2]; exact ⟨by simp, by simp⟩
    · rw [hy'.2]; exact ⟨by simp, by simp⟩
  have hnt : ∀ op ∈ #[x, y], op.act.touch? = none := by
    intro op hop
    rcases hmem op hop with rfl | rfl
    · rw [hx'.2]; rfl
    · rw [hy'.2]; rfl
  have hct := hp.ct.fork (apart0 Wg) hx' hy' hp.deaf
  have hcom : Com2 P ty Wg Ch C N Low val zv M 1 #[a', child] w (t ++ #[x, y]) D 0 := by
    refine ⟨rfl, fun i hi => ?_, hct, hp.atom.app fun op hop _ z hz => (by rw [hnt op hop] at hz; cases hz), hp.norel.app fun op hop => ?_, by rw [Go.ConcN.Deaf_still t 0 _ hst, hp.deaf], fun i hi => ?_, fun i hi hsi => ?_, hpay, ⟨#[], hch, .inl ⟨by rw [hD0]; exact Nat.le_refl _, by rw [hD1]; exact Nat.le_succ _, rfl⟩⟩, fun _ => hD1, hbase, ?_⟩
    · obtain rfl : i = 0 := by omega
      exact ⟨child, rfl, by rw [hD0]; exact .inl ⟨rfl, rfl, hc⟩⟩
    · rcases hmem op hop with rfl | rfl
      · rw [hx'.2]; simp
      · rw [hy'.2]; simp
    · obtain rfl : i = 0 := by omega
      rw [Go.ConcN.Deaf_still t _ _ hst, hD0]
      exact Deaf_absent fun b op hb e => by have := hp.ct.gs b op hb; omega
    · obtain rfl : i = 0 := by omega
      rw [hD0] at hsi
      simp at hsi
    · rw [hD0, hD1]
      simp only [fuel8]
      simp
      omega
  have hmode : Go.ConcN.Mode 1 (cap7 D) (.sp 0 2) (2 * KK) 0 := by
    have hop : OpenSt 1 (cap7 D) := fun i hi => by
      obtain rfl : i = 0 := by omega
      simp [cap7, hD0]
    have := Go.ConcN.Mode.opn (j := 1) (D := cap7 D) (tag := .sp 0 2) trivial hop (by simp)
    have e : Vc 1 (cap7 D) + pend (.sp 0 2) = 2 := by simp [Vc, sumTo, cnt, cap7, hD0, pend]
    rw [e] at this
    exact this
  refine ⟨_, t ++ #[x, y], _, ?_, #[a', child], w, none, 1, D, .sp 0 2, m, 0, a', 2 * KK, 0, rfl, rfl, ⟨rfl, rfl, rfl, rfl, hm⟩, hcom, hwg, hmode, rfl⟩
  simp only [runNT, h2]
  rw [hx, hy]
  rfl

/-- From the call's entry to the join. -/
theorem two_from (hp : Pre Wg 0 t) (G : Geo2 Wg Ch C N) (hAr : ∀ g w, AnchW g w → g.status = .running)
    (hAn : ∀ g w, AnchW g w → ∃ m, Goes P true (RS ty Wg Ch C N) (DP Wg Own0 (Rd0 Wg) 2 Low) (SW1 P ty Wg Ch C N Low K AnchW) m g w) {n0 : Nat}
    (h : Goes P true Eq (DE (Ev0 Wg Own0 (Rd0 Wg) 0)) (AtMk P .disable fun a w => ∃ n, Goes P true Eq (DE (Ev0 Wg Own0 (Rd0 Wg) 0)) (AtMk P .enable fun a w => ∃ n, Goes P true Eq (DE (Ev0 Wg Own0 (Rd0 Wg) 0)) (AtGo1 P ty Wg Ch C N Low AnchW val zv M) n a w) n a w) n0 a w) :
    ∃ n m' t', runNT P n (solo a w) t = (.next m', t') ∧ Done2 P Wg Ch C Low K val m' t' := by
  obtain ⟨k1, a1, w1, t1, r1, s1, p1⟩ := solo_walk hp h
  obtain ⟨k2, a2, w2, t2, r2, ⟨n2, s2⟩, p2⟩ := solo_mark p1 rfl (by simp) s1
  obtain ⟨k3, a3, w3, t3, r3, s3, p3⟩ := solo_walk p2 s2
  obtain ⟨k4, a4, w4, t4, r4, ⟨n4, s4⟩, p4⟩ := solo_mark p3 rfl (by simp) s3
  obtain ⟨k5, a5, w5, t5, r5, s5, p5⟩ := solo_walk p4 s4
  obtain ⟨m6, t6, μ, r6, hI⟩ := go_first (K := K) p5 s5
  obtain ⟨n7, m7, t7, r7, hd⟩ := two_runs G hAr hAn μ m6 t6 hI
  refine ⟨k1 + (k2 + (k3 + (k4 + (k5 + (1 + n7))))), m7, t7, ?_, hd⟩
  rw [runNT_add, r1]
  show runNT P _ (solo a1 w1) t1 = _
  rw [runNT_add, r2]
  show runNT P _ (solo a2 w2) t2 = _
  rw [runNT_add, r3]
  show runNT P _ (solo a3 w3) t3 = _
  rw [runNT_add, r4]
  show runNT P _ (solo a4 w4) t4 = _
  rw [runNT_add, r5]
  show runNT P _ (solo a5 w5) t5 = _
  rw [runNT_add, r6]
  exact r7
end

end Go.Proofs.Ytnndfgceehfiiaa
