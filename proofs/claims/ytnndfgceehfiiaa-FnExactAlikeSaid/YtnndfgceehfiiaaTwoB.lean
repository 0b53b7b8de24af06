/-
  Two senders and their starter: what holds at every moment, and how a step of each keeps it.
-/
import Derived.Test.YtnndfgceehfiiaaTwoA
namespace Go.Proofs.Ytnndfgceehfiiaa
open Go.Conc Go.ConcN
open Go.ConcR (KK WgAt stA smA rd wr mk Payload DC0 Bk g_of_ofEvents)

def cap7 (D : Nat → WD) : Nat → WD := fun i => ⟨min (D i).stage 7, (D i).fuel, (D i).deaf⟩
theorem cap7_upd (D : Nat → WD) (i : Nat) (x : WD) : cap7 (upd D i x) = upd (cap7 D) i ⟨min x.stage 7, x.fuel, x.deaf⟩ := by
  funext a
  by_cases e : a = i
  · subst e; simp [cap7, upd]
  · simp [cap7, upd, e]
theorem cnt_cap7 (D : Nat → WD) (i : Nat) : cnt (cap7 D i) = cnt (D i) := by
  have e : (5 ≤ min (D i).stage 7) ↔ 5 ≤ (D i).stage := by omega
  simp only [cnt, cap7, e]

/-- What was sent so far. -/
def BufOk (val : Nat → Value) (s1 s2 : Nat) (buf : Array Value) : Prop :=
  (8 ≤ s1 ∧ 8 ≤ s2 ∧ buf = #[]) ∨ (s1 ≤ 7 ∧ 8 ≤ s2 ∧ buf = #[val 0]) ∨ (8 ≤ s1 ∧ s2 ≤ 7 ∧ buf = #[val 1]) ∨ (s1 ≤ 7 ∧ s2 ≤ 7 ∧ (buf = #[val 0, val 1] ∨ buf = #[val 1, val 0]))
theorem BufOk.congr {val : Nat → Value} {s1 s2 t1 t2 : Nat} {buf : Array Value} (h : BufOk val s1 s2 buf) (h1 : s1 ≤ 7 ↔ t1 ≤ 7) (h2 : s2 ≤ 7 ↔ t2 ≤ 7) : BufOk val t1 t2 buf := by
  rcases h with ⟨a, b, c⟩ | ⟨a, b, c⟩ | ⟨a, b, c⟩ | ⟨a, b, c⟩
  · exact .inl ⟨by omega, by omega, c⟩
  · exact .inr (.inl ⟨by omega, by omega, c⟩)
  · exact .inr (.inr (.inl ⟨by omega, by omega, c⟩))
  · exact .inr (.inr (.inr ⟨by omega, by omega, c⟩))
theorem BufOk.send0 {val : Nat → Value} {s1 s2 : Nat} {buf : Array Value} (h : BufOk val s1 s2 buf) (h1 : 8 ≤ s1) : buf.size < 2 ∧ BufOk val 7 s2 (buf.push (val 0)) := by
  rcases h with ⟨a, b, rfl⟩ | ⟨a, b, c⟩ | ⟨a, b, rfl⟩ | ⟨a, b, c⟩
  · exact ⟨by simp, .inr (.inl ⟨by omega, b, rfl⟩)⟩
  · omega
  · exact ⟨by simp, .inr (.inr (.inr ⟨by omega, b, .inr rfl⟩))⟩
  · omega
theorem BufOk.send1 {val : Nat → Value} {s1 s2 : Nat} {buf : Array Value} (h : BufOk val s1 s2 buf) (h1 : 8 ≤ s2) : buf.size < 2 ∧ BufOk val s1 7 (buf.push (val 1)) := by
  rcases h with ⟨a, b, rfl⟩ | ⟨a, b, rfl⟩ | ⟨a, b, c⟩ | ⟨a, b, c⟩
  · exact ⟨by simp, .inr (.inr (.inl ⟨a, by omega, rfl⟩))⟩
  · exact ⟨by simp, .inr (.inr (.inr ⟨a, by omega, .inl rfl⟩))⟩
  · omega
  · omega

/-- Every atomic touch of a worker's is of the group's cells. -/
def AtomWg (Wg : Nat) (t : Trace) : Prop := ∀ (i : Nat) (op : MemOp) (x : Touch), t[i]? = some op → op.g ≠ 0 → op.act.touch? = some x → x.kind = .atomic → ShN Wg x.loc
theorem AtomWg.app {Wg : Nat} {t u : Trace} (h : AtomWg Wg t) (hu : ∀ op ∈ u, op.g ≠ 0 → ∀ x, op.act.touch? = some x → x.kind = .atomic → ShN Wg x.loc) : AtomWg Wg (t ++ u) := by
  intro i op x hi hg hx hk
  rcases getElem?_append_cases hi with ⟨_, hi'⟩ | ⟨_, hiu⟩
  · exact h i op x hi' hg hx hk
  · exact hu op hiu hg x hx hk

/-- The steps that a worker on its way to its send may still take: as many blocks at most come. -/
def fuel8 (d : WD) : Nat := if 8 ≤ d.stage then d.fuel else 0

variable [Payload]

section
variable (P : Program) (ty : TypeId) (Wg Ch C N Low : Nat) (val : Nat → Value) (zv : Value) (M : Nat)
structure Com2 (j : Nat) (gs : Array Goroutine) (w : World) (t : Trace) (D : Nat → WD) (d0 : Nat) : Prop where
  size : gs.size = j + 1
  wk : ∀ i, i < j → ∃ g, gs[i + 1]? = some g ∧ WS P ty Wg Ch C N (i + 1) (val i) zv (D i).stage (D i).fuel (D i).deaf g w
  ct : CT (ShN Wg) Own0 (Rd0 Wg) t j
  atom : AtomWg Wg t
  norel : NoRelease (stA Wg) t
  deaf0 : Deaf t 0 = d0
  deafW : ∀ i, i < j → Deaf t (i + 1) = (D i).deaf
  rel : ∀ i, i < j → (D i).stage ≤ 6 → ∃ r, RelBy (stA Wg) t (i + 1) r
  pay : PayAt C 3 w
  ch : ∃ buf, ChAt Ch w buf ∧ BufOk val (D 0).stage (D 1).stage buf
  late : j = 1 → D 1 = ⟨9, M, 0⟩
  base : N ≤ w.heap.size
  room : w.heap.size + fuel8 (D 0) + fuel8 (D 1) < Low
end

section
variable {P : Program} {ty : TypeId} {Wg Ch C N Low : Nat} {val : Nat → Value} {zv : Value} {M : Nat} {j : Nat} {gs gs' : Array Goroutine} {w w' : World} {t u : Trace} {D : Nat → WD} {d0 : Nat}

theorem Com2.at (G : Geo2 Wg Ch C N) (h : Com2 P ty Wg Ch C N Low val zv M j gs w t D d0) (d : Nat) : Com2 P ty Wg Ch C N Low val zv M j gs (w.at d) t D d0 :=
  ⟨h.size, fun i hi => let ⟨g, hg, hs⟩ := h.wk i hi; ⟨g, hg, hs.rely G (RGW.at w d)⟩, h.ct, h.atom, h.norel, h.deaf0, h.deafW, h.rel, h.pay, h.ch, h.late, h.base, h.room⟩

/-- A step of worker number i. -/
theorem Com2.stepW (G : Geo2 Wg Ch C N) (h : Com2 P ty Wg Ch C N Low val zv M j gs w t D d0) {i : Nat} (hi : i < j) {g' : Goroutine} {s' m' dd' : Nat}
    (hsz : gs'.size = gs.size) (hgi : gs'[i + 1]? = some g') (hoth : ∀ b, b ≠ i + 1 → b ≠ 0 → gs'[b]? = gs[b]?) (hu : ∀ op ∈ u, op.g = i + 1)
    (hrw : ∀ i', i' < j → i' ≠ i → RGW ty Wg Ch C N i' w w')
    (hs' : WS P ty Wg Ch C N (i + 1) (val i) zv s' m' dd' g' w')
    (hok : ∀ op ∈ u, OkW (ShN Wg) Own0 (Rd0 Wg) (i + 1) op) (hat : ∀ op ∈ u, ∀ x, op.act.touch? = some x → x.kind = .atomic → ShN Wg x.loc) (hnr : ∀ op ∈ u, op.act ≠ .mark (.release (stA Wg)))
    (hdeaf : Deaf (t ++ u) (i + 1) = dd')
    (hrel : s' ≤ 6 → ∃ r, RelBy (stA Wg) (t ++ u) (i + 1) r)
    (hpay : PayAt C 3 w') (hch : ∃ buf, ChAt Ch w' buf ∧ BufOk val (upd D i ⟨s', m', dd'⟩ 0).stage (upd D i ⟨s', m', dd'⟩ 1).stage buf) (hbase : N ≤ w'.heap.size)
    (hroom : w'.heap.size + fuel8 ⟨s', m', dd'⟩ ≤ w.heap.size + fuel8 (D i)) (hi2 : i < 2) :
    Com2 P ty Wg Ch C N Low val zv M j gs' w' (t ++ u) (upd D i ⟨s', m', dd'⟩) d0 := by
  refine ⟨by rw [hsz, h.size], fun i' hi' => ?_, h.ct.appW (apart0 Wg) (by omega) (by omega) hok, h.atom.app fun op hop _ => hat op hop, h.norel.app hnr, by rw [Deaf_other t (by omega) _ hu, h.deaf0], fun i' hi' => ?_, fun i' hi' hst => ?_, hpay, hch, fun e => ?_, hbase, ?_⟩
  · by_cases e : i' = i
    · subst e
      exact ⟨g', hgi, by rw [upd_same]; exact hs'⟩
    · obtain ⟨x, hx, hsx⟩ := h.wk i' hi'
      refine ⟨x, by rw [hoth _ (by omega) (by omega), hx], ?_⟩
      rw [upd_ne D _ e]
      exact hsx.rely G (by simpa using hrw i' hi' e)
  · by_cases e : i' = i
    · subst e; rw [upd_same]; exact hdeaf
    · rw [Deaf_other t (by omega) _ hu, h.deafW i' hi', upd_ne D _ e]
  · by_cases e : i' = i
    · subst e; rw [upd_same] at hst; exact hrel hst
    · rw [upd_ne D _ e] at hst
      obtain ⟨r, hr⟩ := h.rel i' hi' hst
      exact ⟨r, hr.appOther hu (by omega)⟩
  · rw [upd_ne D _ (by omega)]; exact h.late e
  · have hr := h.room
    obtain rfl | rfl : i = 0 ∨ i = 1 := by omega
    · rw [upd_same, upd_ne D _ (by decide)]; omega
    · rw [upd_same, upd_ne D _ (by decide)]; omega

/-- A step of the starter's. -/
theorem Com2.step0 (G : Geo2 Wg Ch C N) (h : Com2 P ty Wg Ch C N Low val zv M j gs w t D d0) {a a' : Goroutine} {fn : FuncId} {pos : String} {es : Array Event}
    (hrw : ∀ i, i < j → RGW ty Wg Ch C N i w w')
    (hok : ∀ op ∈ MemOp.ofEvents 0 fn pos es, Ok0 (ShN Wg) Own0 (Rd0 Wg) j op) (hnr : ∀ e ∈ es, e.loc ≠ .mark (.release (stA Wg))) (hpay : PayAt C 3 w')
    (hch : w'.heap[Ch]? = w.heap[Ch]?) (hsz : w'.heap.size = w.heap.size) :
    Com2 P ty Wg Ch C N Low val zv M j ((gs.map (woken P a a' w')).setIfInBounds 0 a') w' (t ++ MemOp.ofEvents 0 fn pos es) D (deafBehind d0 es) := by
  refine ⟨by simp [h.size], fun i hi => ?_, h.ct.app0 (apart0 Wg) hok, h.atom.app fun op hop hg => absurd (g_of_ofEvents op hop) hg, h.norel.app (norel_of hnr), by rw [Deaf_own, h.deaf0], fun i hi => by rw [Deaf_other t (by omega) _ g_of_ofEvents, h.deafW i hi], fun i hi hst => ?_, hpay, ?_, h.late, by rw [hsz]; exact h.base, by rw [hsz]; exact h.room⟩
  · obtain ⟨x, hx, hsx⟩ := h.wk i hi
    exact ⟨x, by rw [get_map_set _ _ _ _ (by omega), hx, Option.map_some, hsx.woken], hsx.rely G (by simpa using hrw i hi)⟩
  · obtain ⟨r, hr⟩ := h.rel i hi hst
    exact ⟨r, hr.appOther g_of_ofEvents (by omega)⟩
  · obtain ⟨buf, hb, ho⟩ := h.ch
    exact ⟨buf, hch.trans hb, ho⟩

/-- The second go statement. -/
theorem Com2.spawn (h : Com2 P ty Wg Ch C N Low val zv M 1 gs w t D 0) {a' child : Goroutine} {x y : MemOp} (hx : x.g = 0 ∧ x.act = .go 2) (hy : y.g = 2 ∧ y.act = .start)
    (hc : Goes P false (RGW ty Wg Ch C N 1) (DV Wg 2) (AtSnd P ty Wg Ch C 2 (val 1) zv) M child w) :
    Com2 P ty Wg Ch C N Low val zv M 2 ((gs.setIfInBounds 0 a').push child) w (t ++ #[x, y]) (upd D 1 ⟨8, M, 0⟩) 0 := by
  have hm : ∀ op ∈ #[x, y], op = x ∨ op = y := by intro op hop; simpa using hop
  have hst : ∀ op ∈ #[x, y], op.act ≠ .mark .disable ∧ op.act ≠ .mark .enable := by
    intro op hop
    rcases hm op hop with rfl | rfl
    · rw [hx.2]; exact ⟨by simp, by simp⟩
    · rw [hy.2]; exact ⟨by simp, by simp⟩
  have hnt : ∀ op ∈ #[x, y], op.act.touch? = none := by
    intro op hop
    rcases hm op hop with rfl | rfl
    · rw [hx.2]; rfl
    · rw [hy.2]; rfl
  have hlate := h.late rfl
  refine ⟨by simp [h.size], fun i hi => ?_, h.ct.fork (apart0 Wg) hx hy h.deaf0, h.atom.app fun op hop _ z hz => (by rw [hnt op hop] at hz; cases hz), h.norel.app fun op hop => ?_, by rw [Deaf_still t 0 _ hst, h.deaf0], fun i hi => ?_, fun i hi hs => ?_, h.pay, ?_, fun e => by omega, h.base, ?_⟩
  · rcases Nat.lt_or_ge i 1 with hlt | hge
    · obtain ⟨g, hg, hsg⟩ := h.wk i hlt
      refine ⟨g, ?_, by rw [upd_ne D _ (by omega)]; exact hsg⟩
      rw [Array.getElem?_push_lt (by simp [h.size]; omega), ← Array.getElem?_eq_getElem, Array.getElem?_setIfInBounds_ne (by omega)]
      exact hg
    · obtain rfl : i = 1 := by omega
      refine ⟨child, ?_, by rw [upd_same]; exact .inl ⟨rfl, rfl, hc⟩⟩
      rw [show 1 + 1 = (gs.setIfInBounds 0 a').size by simp [h.size], Array.getElem?_push_size]
  · rcases hm op hop with rfl | rfl
    · rw [hx.2]; simp
    · rw [hy.2]; simp
  · rw [Deaf_still t _ _ hst]
    rcases Nat.lt_or_ge i 1 with hlt | hge
    · rw [h.deafW i hlt, upd_ne D _ (by omega)]
    · obtain rfl : i = 1 := by omega
      rw [upd_same]
      exact Deaf_absent fun a op ha e => by have := h.ct.gs a op ha; omega
  · rcases Nat.lt_or_ge i 1 with hlt | hge
    · rw [upd_ne D _ (by omega)] at hs
      obtain ⟨r, hr⟩ := h.rel i hlt hs
      refine ⟨r, hr.appNot fun op hop => ?_⟩
      rcases hm op hop with rfl | rfl
      · rw [hx.1]; omega
      · rw [hy.1]; omega
    · obtain rfl : i = 1 := by omega
      rw [upd_same] at hs
      simp at hs
  · obtain ⟨buf, hb, ho⟩ := h.ch
    refine ⟨buf, hb, ?_⟩
    rw [hlate] at ho
    rw [upd_same, upd_ne D _ (by decide)]
    exact ho.congr Iff.rfl (by simp)
  · have hr := h.room
    rw [hlate] at hr
    rw [upd_same, upd_ne D _ (by decide)]
    exact hr
end

section
variable (P : Program) (ty : TypeId) (Wg Ch C N Low : Nat) (K AnchW : Goroutine → World → Prop) (val : Nat → Value) (zv : Value) (M : Nat)
def Inv2 (μ : Nat × Nat) (m : Machine) (t : Trace) : Prop :=
  ∃ (gs : Array Goroutine) (w : World) (sl : Option (Nat × Nat)) (j : Nat) (D : Nat → WD) (tag : CTag) (f0 d0 : Nat) (a : Goroutine) (st sm : Int),
    m = crowd gs w sl ∧ gs[0]? = some a ∧ CS P ty Wg Ch C N Low K AnchW (val 1) zv M tag j f0 d0 a w ∧ Com2 P ty Wg Ch C N Low val zv M j gs w t D d0 ∧ WgAt ty Wg w st sm ∧ Go.ConcN.Mode j (cap7 D) tag st sm ∧
    μ = (phi 2 (Vc j (cap7 D)) tag + Ssum j D, f0 + 2 * Fsum j D)
end

section
variable {P : Program} {ty : TypeId} {Wg Ch C N Low : Nat} {K AnchW : Goroutine → World → Prop} {val : Nat → Value} {zv : Value} {M : Nat}
  {gs gs' : Array Goroutine} {w w' : World} {sl : Option (Nat × Nat)} {j : Nat} {D : Nat → WD} {tag tag' : CTag} {f0 f' d0 : Nat} {a a' : Goroutine} {t u : Trace} {st' sm' : Int}

omit [Payload] in
/-- Whatever step of worker number i: the measure falls. -/
theorem lt_worker {i s' m' dd' : Nat} (hi : i < j) (htag : tag' = tag ∨ (tag = .blk ∧ tag' = .w3)) (hf' : f' ≤ f0 + 1)
    (hlt : (s' < (D i).stage ∧ cnt ⟨s', m', dd'⟩ ≤ cnt (D i)) ∨ (s' = (D i).stage ∧ m' + 1 = (D i).fuel)) :
    Lt2 (phi 2 (Vc j (cap7 (upd D i ⟨s', m', dd'⟩))) tag' + Ssum j (upd D i ⟨s', m', dd'⟩), f' + 2 * Fsum j (upd D i ⟨s', m', dd'⟩)) (phi 2 (Vc j (cap7 D)) tag + Ssum j D, f0 + 2 * Fsum j D) := by
  have e0 : ∀ D' : Nat → WD, Vc j (cap7 D') = Vc j D' := fun D' => sumTo_congr fun a _ => cnt_cap7 D' a
  rw [e0, e0, phi_retag 2 _ htag]
  have e1 := sumTo_upd D (⟨s', m', dd'⟩ : WD) cnt hi
  have e2 := sumTo_upd D (⟨s', m', dd'⟩ : WD) WD.stage hi
  have e3 := sumTo_upd D (⟨s', m', dd'⟩ : WD) WD.fuel hi
  simp only [Vc, Ssum, Fsum] at *
  rcases hlt with ⟨h1, h2⟩ | ⟨h1, h2⟩
  · refine Prod.Lex.left _ _ ?_
    have := phi_mono 2 (v' := sumTo j fun a => cnt (upd D i ⟨s', m', dd'⟩ a)) (v := sumTo j fun a => cnt (D a)) (by omega) tag
    omega
  · have ec : cnt (⟨s', m', dd'⟩ : WD) = cnt (D i) := by simp only [cnt, h1]
    have ev : (sumTo j fun a => cnt (upd D i ⟨s', m', dd'⟩ a)) = sumTo j fun a => cnt (D a) := by omega
    have es' : (sumTo j fun a => (upd D i ⟨s', m', dd'⟩ a).stage) = sumTo j fun a => (D a).stage := by omega
    rw [ev, es']
    refine Prod.Lex.right _ ?_
    omega

/-- A step of worker number i that goes on. -/
theorem workerGo (G : Geo2 Wg Ch C N) (hAr : ∀ g w, AnchW g w → g.status = .running)
    (ha : gs[0]? = some a) (hcs : CS P ty Wg Ch C N Low K AnchW (val 1) zv M tag j f0 d0 a w) (hcom : Com2 P ty Wg Ch C N Low val zv M j gs w t D d0)
    {i : Nat} (hi : i < j) {g g' : Goroutine} {es : Array Event} {s' m' dd' : Nat} (hg : gs[i + 1]? = some g) (hgo : stepG P false g w = .go g' w' es)
    (hA2 : RS ty Wg Ch C N w w') (hA3 : j = 1 → w'.cell? ⟨C, 1, none⟩ = w.cell? ⟨C, 1, none⟩) (hrw : ∀ i', i' < j → i' ≠ i → RGW ty Wg Ch C N i' w w')
    (hs' : WS P ty Wg Ch C N (i + 1) (val i) zv s' m' dd' g' w')
    (hok : ∀ op ∈ MemOp.ofEvents (i + 1) g.frame.fn g.frame.place es, OkW (ShN Wg) Own0 (Rd0 Wg) (i + 1) op) (hat : ∀ op ∈ MemOp.ofEvents (i + 1) g.frame.fn g.frame.place es, ∀ x, op.act.touch? = some x → x.kind = .atomic → ShN Wg x.loc)
    (hnr : ∀ e ∈ es, e.loc ≠ .mark (.release (stA Wg)))
    (hdeaf : deafBehind (D i).deaf es = dd')
    (hrel : s' ≤ 6 → ∃ r, RelBy (stA Wg) (t ++ MemOp.ofEvents (i + 1) g.frame.fn g.frame.place es) (i + 1) r)
    (hpay : PayAt C 3 w') (hch : w'.heap[Ch]? = w.heap[Ch]?) (h7 : (D i).stage ≤ 7 ↔ s' ≤ 7) (hroom : w'.heap.size + fuel8 ⟨s', m', dd'⟩ ≤ w.heap.size + fuel8 (D i)) (hwg : WgAt ty Wg w' st' sm')
    (hmode : ∀ tag', (tag' = tag ∨ (tag = .blk ∧ tag' = .w3)) → (mayWake P g = true → g'.status = .running → tag' ≠ .blk) → Go.ConcN.Mode j (cap7 (upd D i ⟨s', m', dd'⟩)) tag' st' sm')
    (hlt : (s' < (D i).stage ∧ cnt ⟨s', m', dd'⟩ ≤ cnt (D i)) ∨ (s' = (D i).stage ∧ m' + 1 = (D i).fuel)) :
    ∃ m₁ ops μ', runT P (crowd gs w sl) (i + 1) = (.next m₁, ops) ∧ Lt2 μ' (phi 2 (Vc j (cap7 D)) tag + Ssum j D, f0 + 2 * Fsum j D) ∧ Inv2 P ty Wg Ch C N Low K AnchW val zv M μ' m₁ (t ++ ops) := by
  obtain ⟨tag', f', hcs', hf', htag, hwk⟩ := hcs.wokenBy hAr hA2 hA3 g g'
  have hrun := runT_crowd_go (P := P) (sl := sl) (i := i + 1) hg (by simpa using hgo)
  have hi2 : i < 2 := by rcases hcs.two with ⟨h1, _⟩ | ⟨h1, _⟩ <;> omega
  refine ⟨_, _, _, hrun, lt_worker (f' := f') hi htag hf' hlt, _, w', sl, j, upd D i ⟨s', m', dd'⟩, tag', f', d0, woken P g g' w' a, st', sm', rfl, by rw [get_map_set _ _ _ _ (by omega), ha]; rfl, hcs', ?_, hwg, hmode tag' htag hwk, rfl⟩
  refine hcom.stepW G hi (by simp) (get_map_set_same _ _ _ (by rw [hcom.size]; omega)) (fun b hb hb0 => ?_) g_of_ofEvents hrw hs' hok hat (norel_of hnr) (by rw [Deaf_own, hcom.deafW i hi]; exact hdeaf) hrel hpay ?_ (Nat.le_trans hcom.base hA2.rg.size) hroom hi2
  · rw [get_map_set _ _ _ _ (by omega)]
    obtain ⟨b', rfl⟩ : ∃ b', b = b' + 1 := ⟨b - 1, by omega⟩
    rcases Nat.lt_or_ge b' j with hlt' | hge
    · obtain ⟨x, hx, hsx⟩ := hcom.wk b' hlt'
      rw [hx, Option.map_some, hsx.woken]
    · rw [Array.getElem?_eq_none (by rw [hcom.size]; omega)]; rfl
  · obtain ⟨buf, hb, ho⟩ := hcom.ch
    refine ⟨buf, hch.trans hb, ?_⟩
    obtain rfl | rfl : i = 0 ∨ i = 1 := by omega
    · rw [upd_same, upd_ne D _ (by decide)]; exact ho.congr h7 Iff.rfl
    · rw [upd_same, upd_ne D _ (by decide)]; exact ho.congr Iff.rfl h7

/-- Whatever step of the starter's that is no go statement. -/
theorem callerGo (G : Geo2 Wg Ch C N)
    (ha : gs[0]? = some a) (hcom : Com2 P ty Wg Ch C N Low val zv M j gs w t D d0)
    {es : Array Event} (hgo : stepG P true a w = .go a' w' es)
    (hrw : ∀ i, i < j → RGW ty Wg Ch C N i w w')
    (hok : ∀ op ∈ MemOp.ofEvents 0 a.frame.fn a.frame.place es, Ok0 (ShN Wg) Own0 (Rd0 Wg) j op) (hnr : ∀ e ∈ es, e.loc ≠ .mark (.release (stA Wg))) (hpay : PayAt C 3 w')
    (hch : w'.heap[Ch]? = w.heap[Ch]?) (hsz : w'.heap.size = w.heap.size)
    (hcs' : CS P ty Wg Ch C N Low K AnchW (val 1) zv M tag' j f' (deafBehind d0 es) a' w') (hwg : WgAt ty Wg w' st' sm') (hmode : Go.ConcN.Mode j (cap7 D) tag' st' sm')
    (hlt : phi 2 (Vc j (cap7 D)) tag' < phi 2 (Vc j (cap7 D)) tag ∨ (phi 2 (Vc j (cap7 D)) tag' = phi 2 (Vc j (cap7 D)) tag ∧ f' < f0)) :
    ∃ m₁ ops μ', runT P (crowd gs w sl) 0 = (.next m₁, ops) ∧ Lt2 μ' (phi 2 (Vc j (cap7 D)) tag + Ssum j D, f0 + 2 * Fsum j D) ∧ Inv2 P ty Wg Ch C N Low K AnchW val zv M μ' m₁ (t ++ ops) := by
  have hrun := runT_crowd_go (P := P) (sl := sl) (i := 0) ha (by simpa using hgo)
  refine ⟨_, _, (phi 2 (Vc j (cap7 D)) tag' + Ssum j D, f' + 2 * Fsum j D), hrun, ?_,
    _, w', sl, j, D, tag', f', deafBehind d0 es, a', st', sm', rfl, get_map_set_same _ _ _ (by rw [hcom.size]; omega), hcs', hcom.step0 G hrw hok hnr hpay hch hsz, hwg, hmode, rfl⟩
  rcases hlt with h | ⟨h1, h2⟩
  · exact Prod.Lex.left _ _ (by omega)
  · rw [h1]; exact Prod.Lex.right _ (by omega)
end

end Go.Proofs.Ytnndfgceehfiiaa
