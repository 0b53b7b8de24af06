/-
  A region that draws its order, in company: each operation as it comes up, whichever that is, by a law of its own (a call, too).
-/
import Derived.Conc.CompanyMem
namespace Go.Proofs.Ytnndfgceehfiiaa
open Go.Conc

theorem events_len_string {P : Program} (w : World) (es : Array Event) (t ty : TypeId) (s : ByteArray) (h : P.underlying t = some .string) : (Builtin.len_ #[t] ty #[.string s]).events P w es = es := by
  simp [Builtin.len_, run_underlying h]
/-- A piece of a list from its beginning on lists nothing. -/
theorem events_slice_high {P : Program} (w : World) (es : Array Event) (t e : TypeId) (a : Option Addr) (len cap : Nat) (k : IntKind) (h : Int) (ht : P.underlying t = some (.slice e)) (h0 : 0 ≤ h) (h1 : h ≤ (cap : Int)) :
    (Instr.sliceAt t (.slice a len cap) none (some (.int k h)) none).events P w es = es := by
  simp [Instr.sliceAt, Instr.slice, Instr.sliceBounds, Instr.sliceBound, asIntOf, run_underlying ht, h0, h1]
  try (cases (sizeOf e).run P w <;> rfl)

section
variable {P : Program} {main : Bool} {R : World → World → Prop} {D : World → World → Array Event → Prop} {fn : FuncId} {Q : Exit → Act → World → Prop} {a : Act} {w : World}
theorem wpC_condT (T : Terms R D) {c : Operand} {x y : Code} {n : Nat} (hc : a.eval c = .bool true) (h : x.wpC P main R D fn n Q a w) : (Code.cond c x y).wpC P main R D fn (n + 1) Q a w := wpC_cond T hc h
theorem wpC_condF (T : Terms R D) {c : Operand} {x y : Code} {n : Nat} (hc : a.eval c = .bool false) (h : y.wpC P main R D fn n Q a w) : (Code.cond c x y).wpC P main R D fn (n + 1) Q a w := wpC_cond T hc h
end

/-- How many have not come up yet. -/
def unl (l : Array Bool) : Nat := l.toList.countP (! ·)
theorem unl_set {l : Array Bool} {i : Nat} (h : l[i]? = some false) : unl (l.setIfInBounds i true) + 1 = unl l := by
  obtain ⟨l⟩ := l
  simp only [List.getElem?_toArray] at h
  simp only [unl, List.setIfInBounds_toArray]
  induction l generalizing i with
  | nil => simp at h
  | cons x l ih =>
    cases i with
    | zero =>
      simp only [List.getElem?_cons_zero, Option.some.injEq] at h
      subst h
      simp
    | succ i =>
      simp only [List.getElem?_cons_succ] at h
      have := ih h
      cases x <;> simp at this ⊢ <;> omega
theorem unl_zero {l : Array Bool} (h : unl l = 0) : ∀ i, i < l.size → l[i]? = some true := by
  obtain ⟨l⟩ := l
  intro i hi
  simp only [unl, List.countP_eq_zero] at h
  simp only [List.size_toArray] at hi
  have := h l[i] (List.getElem_mem hi)
  simp at this
  simp [List.getElem?_eq_getElem hi, this]

theorem unl_all {l : Array Bool} (h : ∀ i, i < l.size → l[i]? = some true) : unl l = 0 := by
  obtain ⟨l⟩ := l
  simp only [unl, List.countP_eq_zero]
  intro x hx
  obtain ⟨i, hi, rfl⟩ := List.mem_iff_getElem.1 hx
  have := h i (by simpa using hi)
  simp only [List.getElem?_toArray, List.getElem?_eq_getElem hi, Option.some.injEq] at this
  simp [this]
/-- What has come up has all it waits for. -/
def Closed (md : Region.Mode) (ops : Array Oper) (l : Array Bool) : Prop := ∀ (i : Nat) (o : Oper), ops[i]? = some o → l.getD i false = true → o.after.all (fun e => !Region.binds md e || l.getD e.on false) = true
theorem getD_set {l : Array Bool} {i j : Nat} (h : l.getD j false = true) : (l.setIfInBounds i true).getD j false = true := by
  by_cases e : i = j
  · subst e
    by_cases hi : i < l.size
    · simp [Array.getD_eq_getD_getElem?, hi]
    · simp [Array.getD_eq_getD_getElem?, hi] at h
  · simpa [Array.getD_eq_getD_getElem?, Array.getElem?_setIfInBounds_ne e] using h
theorem low_get {l : Array Bool} {i j : Nat} (h : (l.setIfInBounds i true).getD j false = true) (hne : j ≠ i) : l.getD j false = true := by
  simpa [Array.getD_eq_getD_getElem?, Array.getElem?_setIfInBounds_ne (fun e => hne e.symm)] using h

theorem ready_iff {md : Region.Mode} {ops : Array Oper} {l : Array Bool} {i : Nat} : i ∈ Region.ready md ops l ↔ i < ops.size ∧ l.getD i true = false ∧ ((ops[i]?).map (·.after.all fun e => !Region.binds md e || l.getD e.on false)).getD false = true := by
  unfold Region.ready
  rw [List.mem_filter, List.mem_range]
  simp only [Bool.and_eq_true, Bool.not_eq_true']

theorem closed_dep {md : Region.Mode} {ops : Array Oper} {l : Array Bool} (hcl : Closed md ops l) (i j d : Nat) (h : l.getD i false = true) (hd : ((ops[i]?).bind fun o => (o.after[j]?).bind fun e => if Region.binds md e then some e.on else none) = some d) : l.getD d false = true := by
  obtain ⟨o, ho, h1⟩ := Option.bind_eq_some_iff.1 hd
  obtain ⟨e, he, h2⟩ := Option.bind_eq_some_iff.1 h1
  have := hcl i o ho h
  rw [Array.all_eq_true_iff_forall_mem] at this
  have := this e (Array.mem_of_getElem? he)
  split at h2
  · rename_i hb
    simp only [Option.some.injEq] at h2
    subst h2
    simpa [hb] using this
  · cases h2
theorem ready_dep {md : Region.Mode} {ops : Array Oper} {l : Array Bool} (i j d : Nat) (h : i ∈ Region.ready md ops l) (hd : ((ops[i]?).bind fun o => (o.after[j]?).bind fun e => if Region.binds md e then some e.on else none) = some d) : l.getD d false = true := by
  obtain ⟨o, ho, h1⟩ := Option.bind_eq_some_iff.1 hd
  obtain ⟨e, he, h2⟩ := Option.bind_eq_some_iff.1 h1
  have h3 := (ready_iff.1 h).2.2
  rw [ho] at h3
  simp only [Option.map_some, Option.getD_some] at h3
  rw [Array.all_eq_true_iff_forall_mem] at h3
  have := h3 e (Array.mem_of_getElem? he)
  split at h2
  · rename_i hb
    simp only [Option.some.injEq] at h2
    subst h2
    simpa [hb] using this
  · cases h2

theorem none_up (i : Nat) : (#[false, false, false, false, false, false, false, false, false, false] : Array Bool).getD i false = false := by
  match i with
  | 0 | 1 | 2 | 3 | 4 | 5 | 6 | 7 | 8 | 9 => rfl
  | i + 10 => rfl

/-- Where each waits for earlier ones alone: if none is ready all have come up. -/
theorem ready_nil_all {md : Region.Mode} {ops : Array Oper} {l : Array Bool} (hs : l.size = ops.size) (htop : ∀ (i : Nat) (o : Oper), ops[i]? = some o → ∀ e ∈ o.after, e.on < i) (h : Region.ready md ops l = []) : ∀ i, i < ops.size → l[i]? = some true := by
  intro i
  induction i using Nat.strongRecOn with
  | _ i ih =>
    intro hi
    rw [Array.getElem?_eq_getElem (by omega)]
    cases hb : l[i]'(by omega) with
    | true => rfl
    | false =>
      refine absurd (ready_iff.2 ⟨hi, ?_, ?_⟩) (List.eq_nil_iff_forall_not_mem.1 h i)
      · simp [Array.getD_eq_getD_getElem?, Array.getElem?_eq_getElem (show i < l.size by omega), hb]
      · rw [Array.getElem?_eq_getElem hi]
        simp only [Option.map_some, Option.getD_some, Array.all_eq_true_iff_forall_mem, Bool.or_eq_true]
        intro e he
        have hlt := htop i ops[i] (Array.getElem?_eq_getElem hi) e he
        exact .inr (by simp [Array.getD_eq_getD_getElem?, ih e.on hlt (by omega)])

section
variable {P : Program} {main : Bool} {R : World → World → Prop} {D : World → World → Array Event → Prop} {Stop : Goroutine → World → Prop} {b : Frame} {k : List Item} {cs : List Frame} {ops : Array Oper} {md : Region.Mode}

/-- Whatever order is drawn. 'St': what holds while some have come up. -/
theorem region_all (St : Array Bool → Act → World → Prop) (c e : Nat) (hsz : ∀ l a w, St l a w → l.size = ops.size)
    (hend : ∀ l a w, St l a w → (∀ i, i < ops.size → l[i]? = some true) → Goes P main R D Stop e (G (b.at a (.inRegion ops [] :: k)) cs) w)
    (htop : ∀ (i : Nat) (o : Oper), ops[i]? = some o → ∀ e ∈ o.after, e.on < i)
    (hstep : ∀ l a w i, St l a w → i ∈ Region.ready md ops l → Closed md ops l → ∀ rest m, ((∀ j, j < ops.size → j ≠ i → l[j]? = some true) → rest = []) →
      (∀ a' w', St (l.setIfInBounds i true) a' w' → Goes P main R D Stop m (G (b.at a' (.inRegion ops rest :: k)) cs) w') → Goes P main R D Stop (m + c) (G (b.at a (.inRegion ops (i :: rest) :: k)) cs) w) :
    ∀ (fuel t : Nat) (l : Array Bool) (a : Act) (w : World), unl l ≤ fuel → Closed md ops l → St l a w → Goes P main R D Stop (fuel * c + e) (G (b.at a (.inRegion ops (Region.linearise.go md ops fuel t l []) :: k)) cs) w := by
  have nilAt : ∀ (fuel t : Nat) (l : Array Bool), Region.ready md ops l = [] → Region.linearise.go md ops fuel t l [] = [] := by
    intro fuel t l h
    cases fuel with
    | zero => rfl
    | succ fuel =>
      simp only [Region.linearise.go]
      change (match (Region.ready md ops l)[t % (Region.ready md ops l).length]? with | some i => _ | none => _) = _
      rw [h]
      simp
  have allNil : ∀ l : Array Bool, l.size = ops.size → unl l = 0 → Region.ready md ops l = [] := by
    intro l hs h0
    rw [List.eq_nil_iff_forall_not_mem]
    intro i hi
    obtain ⟨h1, h2, _⟩ := ready_iff.1 hi
    have := unl_zero h0 i (by omega)
    simp [this] at h2
  intro fuel
  induction fuel with
  | zero =>
    intro t l a w hu _ hS
    have h0 : unl l = 0 := by omega
    rw [nilAt _ _ _ (allNil l (hsz _ _ _ hS) h0)]
    exact (hend l a w hS (fun i hi => unl_zero h0 i (by rw [hsz _ _ _ hS]; exact hi))).mono (by omega)
  | succ fuel ih =>
    intro t l a w hu hcl hS
    cases hi : (Region.ready md ops l)[t % (Region.ready md ops l).length]? with
    | none =>
      have hnil : Region.ready md ops l = [] := by
        cases hr : Region.ready md ops l with
        | nil => rfl
        | cons x xs =>
          rw [hr] at hi
          have hlt : t % (x :: xs).length < (x :: xs).length := Nat.mod_lt _ (by simp)
          simp at hi
          simp at hlt
          omega
      rw [nilAt _ _ _ hnil]
      exact (hend l a w hS (ready_nil_all (hsz _ _ _ hS) htop hnil)).mono (by omega)
    | some i =>
      have hmem := List.mem_of_getElem? hi
      obtain ⟨h1, h2, _⟩ := ready_iff.1 hmem
      have hsz' := hsz _ _ _ hS
      have hl : l[i]? = some false := by
        rw [Array.getElem?_eq_getElem (by omega)]
        simp only [Array.getD_eq_getD_getElem?, Array.getElem?_eq_getElem (show i < l.size by omega), Option.getD_some] at h2
        rw [h2]
      have hun := unl_set hl
      have e1 : Region.linearise.go md ops (fuel + 1) t l [] = i :: Region.linearise.go md ops fuel (t / (Region.ready md ops l).length) (l.setIfInBounds i true) [] := by
        simp only [Region.linearise.go]
        change (match (Region.ready md ops l)[t % (Region.ready md ops l).length]? with | some i => Region.linearise.go md ops fuel (t / (Region.ready md ops l).length) (l.setIfInBounds i true) [i] | none => [].reverse) = _
        rw [hi]
        simp only []
        rw [linearise_go_acc, List.reverse_singleton, List.singleton_append]
      rw [e1]
      have e2 : (fuel + 1) * c + e = (fuel * c + e) + c := by rw [Nat.succ_mul]; omega
      rw [e2]
      refine hstep l a w i hS hmem hcl _ _ (fun hall => nilAt _ _ _ (allNil _ (by simpa using hsz') (unl_all fun j hj => ?_))) (fun a' w' hS' => ih _ _ a' w' (by omega) ?_ hS')
      · have hj' : j < l.size := by simpa using hj
        by_cases e : i = j
        · subst e; exact Array.getElem?_setIfInBounds_self_of_lt hj'
        · rw [Array.getElem?_setIfInBounds_ne e]; exact hall j (by omega) (fun h => e h.symm)
      · intro j o ho hjt
        rw [Array.all_eq_true_iff_forall_mem]
        intro e he
        by_cases hji : j = i
        · subst hji
          have h3 := (ready_iff.1 hmem).2.2
          rw [ho] at h3
          simp only [Option.map_some, Option.getD_some] at h3
          rw [Array.all_eq_true_iff_forall_mem] at h3
          have := h3 e he
          rw [Bool.or_eq_true] at this ⊢
          exact this.imp id getD_set
        · have := hcl j o ho (low_get hjt hji)
          rw [Array.all_eq_true_iff_forall_mem] at this
          have := this e he
          rw [Bool.or_eq_true] at this ⊢
          exact this.imp id getD_set
end

end Go.Proofs.Ytnndfgceehfiiaa
