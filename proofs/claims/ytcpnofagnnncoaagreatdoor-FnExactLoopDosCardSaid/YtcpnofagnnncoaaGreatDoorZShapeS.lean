/-
  ShapeS: Shapes, Numbers, in one text.
-/
import Derived.Test.YtcpnofagnnncoaaGreatDoorZBase
import Derived.Test.YtcpnofagnnncoaaGreatDoorZLeafS
import Derived.Deep.RegionHeld3
/-
  Whether a shape of the program is right, and which shape it takes a Value for: one that is right as the model has it, at every Value.
-/
namespace Go.Proofs.YtcpnofagnnncoaaGreatDoor
open Go.RowKit

/-- What a two-valued assertion answers at each shape. -/
theorem asNoneOfNone (v : Value) (w : World) : (Instr.typeAssert (.iface 162 v) 159 162 true).run Tryz.prog w = .ok (.tuple #[v, .bool true]) w := by kernel_rfl
theorem asNoneOfNumber (v : Value) (w : World) : (Instr.typeAssert (.iface 162 v) 159 140 true).run Tryz.prog w = .ok (.tuple #[.agg #[.int .i64 0], .bool false]) w := by kernel_rfl
theorem asNoneOfText (v : Value) (w : World) : (Instr.typeAssert (.iface 162 v) 159 143 true).run Tryz.prog w = .ok (.tuple #[.agg #[.string ⟨#[]⟩], .bool false]) w := by kernel_rfl
theorem asNoneOfPlace (v : Value) (w : World) : (Instr.typeAssert (.iface 162 v) 159 182 true).run Tryz.prog w = .ok (.tuple #[.agg #[.int .i64 0, .int .i64 0], .bool false]) w := by kernel_rfl
theorem asNumberOfNone (v : Value) (w : World) : (Instr.typeAssert (.iface 140 v) 159 162 true).run Tryz.prog w = .ok (.tuple #[.agg #[], .bool false]) w := by kernel_rfl
theorem asNumberOfNumber (v : Value) (w : World) : (Instr.typeAssert (.iface 140 v) 159 140 true).run Tryz.prog w = .ok (.tuple #[v, .bool true]) w := by kernel_rfl
theorem asNumberOfText (v : Value) (w : World) : (Instr.typeAssert (.iface 140 v) 159 143 true).run Tryz.prog w = .ok (.tuple #[.agg #[.string ⟨#[]⟩], .bool false]) w := by kernel_rfl
theorem asNumberOfPlace (v : Value) (w : World) : (Instr.typeAssert (.iface 140 v) 159 182 true).run Tryz.prog w = .ok (.tuple #[.agg #[.int .i64 0, .int .i64 0], .bool false]) w := by kernel_rfl
theorem asTextOfNone (v : Value) (w : World) : (Instr.typeAssert (.iface 143 v) 159 162 true).run Tryz.prog w = .ok (.tuple #[.agg #[], .bool false]) w := by kernel_rfl
theorem asTextOfNumber (v : Value) (w : World) : (Instr.typeAssert (.iface 143 v) 159 140 true).run Tryz.prog w = .ok (.tuple #[.agg #[.int .i64 0], .bool false]) w := by kernel_rfl
theorem asTextOfText (v : Value) (w : World) : (Instr.typeAssert (.iface 143 v) 159 143 true).run Tryz.prog w = .ok (.tuple #[v, .bool true]) w := by kernel_rfl
theorem asTextOfPlace (v : Value) (w : World) : (Instr.typeAssert (.iface 143 v) 159 182 true).run Tryz.prog w = .ok (.tuple #[.agg #[.int .i64 0, .int .i64 0], .bool false]) w := by kernel_rfl
theorem asPlaceOfNone (v : Value) (w : World) : (Instr.typeAssert (.iface 182 v) 159 162 true).run Tryz.prog w = .ok (.tuple #[.agg #[], .bool false]) w := by kernel_rfl
theorem asPlaceOfNumber (v : Value) (w : World) : (Instr.typeAssert (.iface 182 v) 159 140 true).run Tryz.prog w = .ok (.tuple #[.agg #[.int .i64 0], .bool false]) w := by kernel_rfl
theorem asPlaceOfText (v : Value) (w : World) : (Instr.typeAssert (.iface 182 v) 159 143 true).run Tryz.prog w = .ok (.tuple #[.agg #[.string ⟨#[]⟩], .bool false]) w := by kernel_rfl
theorem asPlaceOfPlace (v : Value) (w : World) : (Instr.typeAssert (.iface 182 v) 159 182 true).run Tryz.prog w = .ok (.tuple #[v, .bool true]) w := by kernel_rfl
theorem asWrongOfNone (v : Value) (w : World) : (Instr.typeAssert (.iface 173 v) 159 162 true).run Tryz.prog w = .ok (.tuple #[.agg #[], .bool false]) w := by kernel_rfl
theorem asWrongOfNumber (v : Value) (w : World) : (Instr.typeAssert (.iface 173 v) 159 140 true).run Tryz.prog w = .ok (.tuple #[.agg #[.int .i64 0], .bool false]) w := by kernel_rfl
theorem asWrongOfText (v : Value) (w : World) : (Instr.typeAssert (.iface 173 v) 159 143 true).run Tryz.prog w = .ok (.tuple #[.agg #[.string ⟨#[]⟩], .bool false]) w := by kernel_rfl
theorem asWrongOfPlace (v : Value) (w : World) : (Instr.typeAssert (.iface 173 v) 159 182 true).run Tryz.prog w = .ok (.tuple #[.agg #[.int .i64 0, .int .i64 0], .bool false]) w := by kernel_rfl
attribute [local go_sem] asNoneOfNone asNoneOfNumber asNoneOfText asNoneOfPlace asNumberOfNone asNumberOfNumber asNumberOfText asNumberOfPlace asTextOfNone asTextOfNumber asTextOfText asTextOfPlace asPlaceOfNone asPlaceOfNumber asPlaceOfText asPlaceOfPlace asWrongOfNone asWrongOfNumber asWrongOfText asWrongOfPlace

theorem shapeOk_none (w : World) :
    Calls Tryz.prog 160 #[.iface 162 (.agg #[])] w fun e w' => e = .returned (.bool true) ∧ Below w.heap.size w w' := by
  go_enter Tryz.func160, Tryz.ntmps160
  go_wp2
  go_ret
  exact ⟨rfl, by go_grown⟩
theorem shapeOk_number (n : Int) (w : World) :
    Calls Tryz.prog 160 #[.iface 140 (.agg #[.int .i64 n])] w fun e w' => e = .returned (.bool (numB n)) ∧ Below w.heap.size w w' := by
  go_enter Tryz.func160, Tryz.ntmps160
  go_wp2_with fail
  refine (numberOk_any n _).mono ?_
  rintro e w' ⟨rfl, rfl⟩
  go_wp2
  go_ret
  exact ⟨rfl, by go_grown⟩
theorem shapeOk_text (s : ByteArray) (w : World) (hs : s.size ≤ maxLen) :
    Calls Tryz.prog 160 #[.iface 143 (.agg #[.string s])] w fun e w' => e = .returned (.bool (textB s)) ∧ Below w.heap.size w w' := by
  go_enter Tryz.func160, Tryz.ntmps160
  go_wp2_with fail
  refine (textOk_any s _ hs).mono ?_
  rintro e w' ⟨rfl, rfl⟩
  go_wp2
  go_ret
  exact ⟨rfl, by go_grown⟩
theorem shapeOk_place (k n : Int) (w : World) :
    Calls Tryz.prog 160 #[.iface 182 (.agg #[.int .i64 k, .int .i64 n])] w fun e w' => e = .returned (.bool (decide (0 ≤ n))) ∧ Below w.heap.size w w' := by
  go_enter Tryz.func160, Tryz.ntmps160
  go_wp2
  go_ret
  exact ⟨rfl, by go_grown⟩
theorem shapeOk_wrong (w : World) :
    Calls Tryz.prog 160 #[.iface 173 (.agg #[])] w fun e w' => e = .returned (.bool false) ∧ Below w.heap.size w w' := by
  go_enter Tryz.func160, Tryz.ntmps160
  go_wp2
  go_ret
  exact ⟨rfl, by go_grown⟩

/-- The shape that a Value is taken for. -/
def shapeV (k n : Int) (s : ByteArray) : Value := if okV k n s then kindV k n s else .iface 173 (.agg #[])

theorem valueNone_any (w : World) :
    Calls Tryz.prog 195 #[.agg #[]] w fun e w' =>
      e = .returned (.agg #[.int .i64 0, .int .i64 0, .string ⟨#[]⟩]) ∧ Below w.heap.size w w' := by
  go_enter Tryz.func195, Tryz.ntmps195
  go_wp2
  go_returns
  exact ⟨rfl, by go_grown⟩
theorem valueText_any (s : ByteArray) (w : World) :
    Calls Tryz.prog 132 #[.agg #[.string s]] w fun e w' =>
      e = .returned (.agg #[.int .i64 2, .int .i64 0, .string s]) ∧ Below w.heap.size w w' := by
  go_enter Tryz.func132, Tryz.ntmps132
  go_wp2
  go_returns
  exact ⟨rfl, by go_grown⟩
theorem valuePlace_any (k n : Int) (w : World) :
    Calls Tryz.prog 199 #[.agg #[.int .i64 k, .int .i64 n]] w fun e w' =>
      e = .returned (.agg #[.int .i64 k, .int .i64 n, .string ⟨#[]⟩]) ∧ Below w.heap.size w w' := by
  go_enter Tryz.func199, Tryz.ntmps199
  go_wp2
  go_returns
  exact ⟨rfl, by go_grown⟩

set_option maxHeartbeats 400000 in
theorem shapeOf_number (n : Int) (s : ByteArray) (w : World) :
    Calls Tryz.prog 152 #[.agg #[.int .i64 1, .int .i64 n, .string s]] w fun e w' =>
      e = .returned (shapeV 1 n s) ∧ Below w.heap.size w w' := by
  cases hn : numB n
  · have HS : Hid (shapeV 1 n s = .iface 173 (.agg #[])) := by simp [Hid, shapeV, okV, emB, hn]
    have HN : Hid (numB n = _) := hn
    clear hn
    go_enter Tryz.func152, Tryz.ntmps152
    go_wp2_with fail
    refine (shapeByKind_any 1 n s _).mono ?_
    rintro e w' ⟨rfl, hb⟩
    rw [show kindV 1 n s = .iface 140 (.agg #[.int .i64 n]) from rfl]
    go_wp2_with fail
    first | go_region_with (go_at_call 160; refine (shapeOk_number n _).mono ?_; rintro e w2 ⟨rfl, hb2⟩; rw [HN.out]) | fail
    all_goals
      go_wp2
      go_ret
      exact ⟨by rw [HS.out]; rfl, (by repeat' (first | (with_reducible exact Below.refl _ _) | (with_reducible refine Below.drew ?_) | (with_reducible refine balloc ?_ _) | (with_reducible refine bset ?_ _ ?_) | (with_reducible refine bstep ?_ (by with_reducible assumption)) | go_size))⟩
  rcases em_cases s with rfl | ⟨he, hem⟩
  · have HS : Hid (shapeV 1 n ⟨#[]⟩ = .iface 140 (.agg #[.int .i64 n])) := by simp [Hid, shapeV, okV, emB, kindV, hn]
    have HN : Hid (numB n = _) := hn
    clear hn
    go_enter Tryz.func152, Tryz.ntmps152
    go_wp2_with fail
    refine (shapeByKind_any 1 n ⟨#[]⟩ _).mono ?_
    rintro e w' ⟨rfl, hb⟩
    rw [show kindV 1 n ⟨#[]⟩ = .iface 140 (.agg #[.int .i64 n]) from rfl]
    go_wp2_with fail
    obtain ⟨o0, o1, o2, oz⟩ := bbox0 w (.int .i64 1) (.int .i64 n) (.string ⟨#[]⟩) 118
    obtain ⟨p0, p1, p2, pz⟩ := bbox hb oz o0 o1 o2
    clear o0 o1 o2 oz
    first | go_region_with (first | (go_at_call 160; refine (shapeOk_number n _).mono ?_; rintro e w2 ⟨rfl, hb2⟩; rw [HN.out]; obtain ⟨q0, q1, q2, qz⟩ := bbox hb2 pz p0 p1 p2) | (go_at_call 131; refine (value_any n _).mono ?_; rintro e w3 ⟨rfl, hb3⟩; obtain ⟨r0, r1, r2, rz⟩ := bbox hb3 qz q0 q1 q2)) | fail
    all_goals
      go_wp2
      go_ret
      exact ⟨by rw [HS.out]; rfl, (by repeat' (first | (with_reducible exact Below.refl _ _) | (with_reducible refine Below.drew ?_) | (with_reducible refine balloc ?_ _) | (with_reducible refine bset ?_ _ ?_) | (with_reducible refine bstep ?_ (by with_reducible assumption)) | go_size))⟩
  · have HS : Hid (shapeV 1 n s = .iface 173 (.agg #[])) := by simp [Hid, shapeV, okV, emB, hn, he]
    have HN : Hid (numB n = _) := hn
    clear hn
    clear hem
    go_enter Tryz.func152, Tryz.ntmps152
    go_wp2_with fail
    refine (shapeByKind_any 1 n s _).mono ?_
    rintro e w' ⟨rfl, hb⟩
    rw [show kindV 1 n s = .iface 140 (.agg #[.int .i64 n]) from rfl]
    go_wp2_with fail
    obtain ⟨o0, o1, o2, oz⟩ := bbox0 w (.int .i64 1) (.int .i64 n) (.string s) 118
    obtain ⟨p0, p1, p2, pz⟩ := bbox hb oz o0 o1 o2
    clear o0 o1 o2 oz
    first | go_region_with (first | (go_at_call 160; refine (shapeOk_number n _).mono ?_; rintro e w2 ⟨rfl, hb2⟩; rw [HN.out]; obtain ⟨q0, q1, q2, qz⟩ := bbox hb2 pz p0 p1 p2) | (go_at_call 131; refine (value_any n _).mono ?_; rintro e w3 ⟨rfl, hb3⟩; obtain ⟨r0, r1, r2, rz⟩ := bbox hb3 qz q0 q1 q2)) | fail
    all_goals
      go_wp2
      go_ret
      exact ⟨by rw [HS.out]; rfl, (by repeat' (first | (with_reducible exact Below.refl _ _) | (with_reducible refine Below.drew ?_) | (with_reducible refine balloc ?_ _) | (with_reducible refine bset ?_ _ ?_) | (with_reducible refine bstep ?_ (by with_reducible assumption)) | go_size))⟩

set_option maxHeartbeats 400000 in
theorem shapeOf_none (n : Int) (s : ByteArray) (w : World) :
    Calls Tryz.prog 152 #[.agg #[.int .i64 0, .int .i64 n, .string s]] w fun e w' =>
      e = .returned (shapeV 0 n s) ∧ Below w.heap.size w w' := by
  rcases em_cases s with rfl | ⟨he, hem⟩
  · by_cases hn : n = 0
    · have HS : Hid (shapeV 0 n ⟨#[]⟩ = .iface 162 (.agg #[])) := by simp [Hid, shapeV, okV, emB, kindV, hn]
      subst hn
      go_enter Tryz.func152, Tryz.ntmps152
      go_wp2_with fail
      refine (shapeByKind_any 0 0 ⟨#[]⟩ _).mono ?_
      rintro e w' ⟨rfl, hb⟩
      rw [show kindV 0 0 ⟨#[]⟩ = .iface 162 (.agg #[]) from rfl]
      go_wp2_with fail
      obtain ⟨o0, o1, o2, oz⟩ := bbox0 w (.int .i64 0) (.int .i64 0) (.string ⟨#[]⟩) 118
      obtain ⟨p0, p1, p2, pz⟩ := bbox hb oz o0 o1 o2
      clear o0 o1 o2 oz
      first | go_region_with (first | (go_at_call 160; refine (shapeOk_none _).mono ?_; rintro e w2 ⟨rfl, hb2⟩; obtain ⟨q0, q1, q2, qz⟩ := bbox hb2 pz p0 p1 p2) | (go_at_call 195; refine (valueNone_any _).mono ?_; rintro e w3 ⟨rfl, hb3⟩; obtain ⟨r0, r1, r2, rz⟩ := bbox hb3 qz q0 q1 q2)) | fail
      all_goals
        go_wp2
        go_ret
        exact ⟨by rw [HS.out]; rfl, (by repeat' (first | (with_reducible exact Below.refl _ _) | (with_reducible refine Below.drew ?_) | (with_reducible refine balloc ?_ _) | (with_reducible refine bset ?_ _ ?_) | (with_reducible refine bstep ?_ (by with_reducible assumption)) | go_size))⟩
    · have HS : Hid (shapeV 0 n ⟨#[]⟩ = .iface 173 (.agg #[])) := by simp [Hid, shapeV, okV, emB, hn]
      go_enter Tryz.func152, Tryz.ntmps152
      go_wp2_with fail
      refine (shapeByKind_any 0 n ⟨#[]⟩ _).mono ?_
      rintro e w' ⟨rfl, hb⟩
      rw [show kindV 0 n ⟨#[]⟩ = .iface 162 (.agg #[]) from rfl]
      go_wp2_with fail
      obtain ⟨o0, o1, o2, oz⟩ := bbox0 w (.int .i64 0) (.int .i64 n) (.string ⟨#[]⟩) 118
      obtain ⟨p0, p1, p2, pz⟩ := bbox hb oz o0 o1 o2
      clear o0 o1 o2 oz
      first | go_region_with (first | (go_at_call 160; refine (shapeOk_none _).mono ?_; rintro e w2 ⟨rfl, hb2⟩; obtain ⟨q0, q1, q2, qz⟩ := bbox hb2 pz p0 p1 p2) | (go_at_call 195; refine (valueNone_any _).mono ?_; rintro e w3 ⟨rfl, hb3⟩; obtain ⟨r0, r1, r2, rz⟩ := bbox hb3 qz q0 q1 q2)) | fail
      all_goals
        go_wp2
        go_ret
        exact ⟨by rw [HS.out]; rfl, (by repeat' (first | (with_reducible exact Below.refl _ _) | (with_reducible refine Below.drew ?_) | (with_reducible refine balloc ?_ _) | (with_reducible refine bset ?_ _ ?_) | (with_reducible refine bstep ?_ (by with_reducible assumption)) | go_size))⟩
  · have HS : Hid (shapeV 0 n s = .iface 173 (.agg #[])) := by simp [Hid, shapeV, okV, emB, he]
    clear hem
    go_enter Tryz.func152, Tryz.ntmps152
    go_wp2_with fail
    refine (shapeByKind_any 0 n s _).mono ?_
    rintro e w' ⟨rfl, hb⟩
    rw [show kindV 0 n s = .iface 162 (.agg #[]) from rfl]
    go_wp2_with fail
    obtain ⟨o0, o1, o2, oz⟩ := bbox0 w (.int .i64 0) (.int .i64 n) (.string s) 118
    obtain ⟨p0, p1, p2, pz⟩ := bbox hb oz o0 o1 o2
    clear o0 o1 o2 oz
    first | go_region_with (first | (go_at_call 160; refine (shapeOk_none _).mono ?_; rintro e w2 ⟨rfl, hb2⟩; obtain ⟨q0, q1, q2, qz⟩ := bbox hb2 pz p0 p1 p2) | (go_at_call 195; refine (valueNone_any _).mono ?_; rintro e w3 ⟨rfl, hb3⟩; obtain ⟨r0, r1, r2, rz⟩ := bbox hb3 qz q0 q1 q2)) | fail
    all_goals
      go_wp2
      go_ret
      exact ⟨by rw [HS.out]; rfl, (by repeat' (first | (with_reducible exact Below.refl _ _) | (with_reducible refine Below.drew ?_) | (with_reducible refine balloc ?_ _) | (with_reducible refine bset ?_ _ ?_) | (with_reducible refine bstep ?_ (by with_reducible assumption)) | go_size))⟩

set_option maxHeartbeats 400000 in
theorem shapeOf_text (n : Int) (s : ByteArray) (w : World) (hs : s.size ≤ maxLen) :
    Calls Tryz.prog 152 #[.agg #[.int .i64 2, .int .i64 n, .string s]] w fun e w' =>
      e = .returned (shapeV 2 n s) ∧ Below w.heap.size w w' := by
  cases hn : textB s
  · have HS : Hid (shapeV 2 n s = .iface 173 (.agg #[])) := by simp [Hid, shapeV, okV, hn]
    have HN : Hid (textB s = _) := hn
    clear hn
    go_enter Tryz.func152, Tryz.ntmps152
    go_wp2_with fail
    refine (shapeByKind_any 2 n s _).mono ?_
    rintro e w' ⟨rfl, hb⟩
    rw [show kindV 2 n s = .iface 143 (.agg #[.string s]) from rfl]
    go_wp2_with fail
    first | go_region_with (go_at_call 160; refine (shapeOk_text s _ hs).mono ?_; rintro e w2 ⟨rfl, hb2⟩; rw [HN.out]) | fail
    all_goals
      go_wp2
      go_ret
      exact ⟨by rw [HS.out]; rfl, (by repeat' (first | (with_reducible exact Below.refl _ _) | (with_reducible refine Below.drew ?_) | (with_reducible refine balloc ?_ _) | (with_reducible refine bset ?_ _ ?_) | (with_reducible refine bstep ?_ (by with_reducible assumption)) | go_size))⟩
  by_cases h0 : n = 0
  · have HS : Hid (shapeV 2 n s = .iface 143 (.agg #[.string s])) := by simp [Hid, shapeV, okV, kindV, hn, h0]
    have HN : Hid (textB s = _) := hn
    clear hn
    subst h0
    go_enter Tryz.func152, Tryz.ntmps152
    go_wp2_with fail
    refine (shapeByKind_any 2 0 s _).mono ?_
    rintro e w' ⟨rfl, hb⟩
    rw [show kindV 2 0 s = .iface 143 (.agg #[.string s]) from rfl]
    go_wp2_with fail
    obtain ⟨o0, o1, o2, oz⟩ := bbox0 w (.int .i64 2) (.int .i64 0) (.string s) 118
    obtain ⟨p0, p1, p2, pz⟩ := bbox hb oz o0 o1 o2
    clear o0 o1 o2 oz
    first | go_region_with (first | (go_at_call 160; refine (shapeOk_text s _ hs).mono ?_; rintro e w2 ⟨rfl, hb2⟩; rw [HN.out]; obtain ⟨q0, q1, q2, qz⟩ := bbox hb2 pz p0 p1 p2) | (go_at_call 132; refine (valueText_any s _).mono ?_; rintro e w3 ⟨rfl, hb3⟩; obtain ⟨r0, r1, r2, rz⟩ := bbox hb3 qz q0 q1 q2)) | fail
    all_goals
      go_wp2
      go_ret
      exact ⟨by rw [HS.out]; rfl, (by repeat' (first | (with_reducible exact Below.refl _ _) | (with_reducible refine Below.drew ?_) | (with_reducible refine balloc ?_ _) | (with_reducible refine bset ?_ _ ?_) | (with_reducible refine bstep ?_ (by with_reducible assumption)) | go_size))⟩
  · have HS : Hid (shapeV 2 n s = .iface 173 (.agg #[])) := by simp [Hid, shapeV, okV, hn, h0]
    have HN : Hid (textB s = _) := hn
    clear hn
    go_enter Tryz.func152, Tryz.ntmps152
    go_wp2_with fail
    refine (shapeByKind_any 2 n s _).mono ?_
    rintro e w' ⟨rfl, hb⟩
    rw [show kindV 2 n s = .iface 143 (.agg #[.string s]) from rfl]
    go_wp2_with fail
    obtain ⟨o0, o1, o2, oz⟩ := bbox0 w (.int .i64 2) (.int .i64 n) (.string s) 118
    obtain ⟨p0, p1, p2, pz⟩ := bbox hb oz o0 o1 o2
    clear o0 o1 o2 oz
    first | go_region_with (first | (go_at_call 160; refine (shapeOk_text s _ hs).mono ?_; rintro e w2 ⟨rfl, hb2⟩; rw [HN.out]; obtain ⟨q0, q1, q2, qz⟩ := bbox hb2 pz p0 p1 p2) | (go_at_call 132; refine (valueText_any s _).mono ?_; rintro e w3 ⟨rfl, hb3⟩; obtain ⟨r0, r1, r2, rz⟩ := bbox hb3 qz q0 q1 q2)) | fail
    all_goals
      go_wp2
      go_ret
      exact ⟨by rw [HS.out]; rfl, (by repeat' (first | (with_reducible exact Below.refl _ _) | (with_reducible refine Below.drew ?_) | (with_reducible refine balloc ?_ _) | (with_reducible refine bset ?_ _ ?_) | (with_reducible refine bstep ?_ (by with_reducible assumption)) | go_size))⟩

set_option maxHeartbeats 400000 in
theorem shapeOf_place (k n : Int) (s : ByteArray) (w : World) (h3 : 3 ≤ k) (h5 : k ≤ 5) :
    Calls Tryz.prog 152 #[.agg #[.int .i64 k, .int .i64 n, .string s]] w fun e w' =>
      e = .returned (shapeV k n s) ∧ Below w.heap.size w w' := by
  have hk : ∀ S, kindV k n S = .iface 182 (.agg #[.int .i64 k, .int .i64 n]) := by
    intro S
    unfold kindV
    rw [if_neg (by omega), if_neg (by omega), if_neg (by omega), if_pos ⟨h3, h5⟩]
  have ho : ∀ S, okV k n S = (decide (0 ≤ n) && emB S) := by
    intro S
    unfold okV
    rw [if_neg (by omega), if_neg (by omega), if_neg (by omega), if_pos ⟨h3, h5⟩]
  have HK : Hid (∀ S, kindV k n S = .iface 182 (.agg #[.int .i64 k, .int .i64 n])) := hk
  have HO : Hid (∀ S, okV k n S = (decide (0 ≤ n) && emB S)) := ho
  clear hk ho
  by_cases h0 : 0 ≤ n
  · have hd : decide (0 ≤ n) = true := decide_eq_true h0
    have HD : Hid (decide (0 ≤ n) = true) := hd
    clear hd
    rcases em_cases s with rfl | ⟨he, hem⟩
    · have HS : Hid (shapeV k n ⟨#[]⟩ = .iface 182 (.agg #[.int .i64 k, .int .i64 n])) := by
        unfold Hid shapeV; rw [HO.out ⟨#[]⟩, HK.out ⟨#[]⟩]; simp [emB, h0]
      go_enter Tryz.func152, Tryz.ntmps152
      go_wp2_with fail
      refine (shapeByKind_any k n ⟨#[]⟩ _).mono ?_
      rintro e w' ⟨rfl, hb⟩
      rw [HK.out ⟨#[]⟩]
      go_wp2_with fail
      obtain ⟨o0, o1, o2, oz⟩ := bbox0 w (.int .i64 k) (.int .i64 n) (.string ⟨#[]⟩) 118
      obtain ⟨p0, p1, p2, pz⟩ := bbox hb oz o0 o1 o2
      clear o0 o1 o2 oz
      first | go_region_with (first | (go_at_call 160; refine (shapeOk_place k n _).mono ?_; rintro e w2 ⟨rfl, hb2⟩; rw [HD.out]; obtain ⟨q0, q1, q2, qz⟩ := bbox hb2 pz p0 p1 p2) | (go_at_call 199; refine (valuePlace_any k n _).mono ?_; rintro e w3 ⟨rfl, hb3⟩; obtain ⟨r0, r1, r2, rz⟩ := bbox hb3 qz q0 q1 q2)) | fail
      all_goals
        go_wp2
        go_ret
        exact ⟨by rw [HS.out]; rfl, (by repeat' (first | (with_reducible exact Below.refl _ _) | (with_reducible refine Below.drew ?_) | (with_reducible refine balloc ?_ _) | (with_reducible refine bset ?_ _ ?_) | (with_reducible refine bstep ?_ (by with_reducible assumption)) | go_size))⟩
    · have HS : Hid (shapeV k n s = .iface 173 (.agg #[])) := by
        unfold Hid shapeV; rw [HO.out s, HK.out s]; simp [emB, he]
      clear hem
      go_enter Tryz.func152, Tryz.ntmps152
      go_wp2_with fail
      refine (shapeByKind_any k n s _).mono ?_
      rintro e w' ⟨rfl, hb⟩
      rw [HK.out s]
      go_wp2_with fail
      obtain ⟨o0, o1, o2, oz⟩ := bbox0 w (.int .i64 k) (.int .i64 n) (.string s) 118
      obtain ⟨p0, p1, p2, pz⟩ := bbox hb oz o0 o1 o2
      clear o0 o1 o2 oz
      first | go_region_with (first | (go_at_call 160; refine (shapeOk_place k n _).mono ?_; rintro e w2 ⟨rfl, hb2⟩; rw [HD.out]; obtain ⟨q0, q1, q2, qz⟩ := bbox hb2 pz p0 p1 p2) | (go_at_call 199; refine (valuePlace_any k n _).mono ?_; rintro e w3 ⟨rfl, hb3⟩; obtain ⟨r0, r1, r2, rz⟩ := bbox hb3 qz q0 q1 q2)) | fail
      all_goals
        go_wp2
        go_ret
        exact ⟨by rw [HS.out]; rfl, (by repeat' (first | (with_reducible exact Below.refl _ _) | (with_reducible refine Below.drew ?_) | (with_reducible refine balloc ?_ _) | (with_reducible refine bset ?_ _ ?_) | (with_reducible refine bstep ?_ (by with_reducible assumption)) | go_size))⟩
  · have hd : decide (0 ≤ n) = false := decide_eq_false h0
    have HD : Hid (decide (0 ≤ n) = false) := hd
    clear hd
    have HS : Hid (shapeV k n s = .iface 173 (.agg #[])) := by
      unfold Hid shapeV; rw [HO.out s, HK.out s]; simp [emB, h0]
    go_enter Tryz.func152, Tryz.ntmps152
    go_wp2_with fail
    refine (shapeByKind_any k n s _).mono ?_
    rintro e w' ⟨rfl, hb⟩
    rw [HK.out s]
    go_wp2_with fail
    first | go_region_with (go_at_call 160; refine (shapeOk_place k n _).mono ?_; rintro e w2 ⟨rfl, hb2⟩; rw [HD.out]) | fail
    all_goals
      go_wp2
      go_ret
      exact ⟨by rw [HS.out]; rfl, (by repeat' (first | (with_reducible exact Below.refl _ _) | (with_reducible refine Below.drew ?_) | (with_reducible refine balloc ?_ _) | (with_reducible refine bset ?_ _ ?_) | (with_reducible refine bstep ?_ (by with_reducible assumption)) | go_size))⟩

set_option maxHeartbeats 400000 in
theorem shapeOf_other (k n : Int) (s : ByteArray) (w : World) (h : k < 0 ∨ 5 < k) :
    Calls Tryz.prog 152 #[.agg #[.int .i64 k, .int .i64 n, .string s]] w fun e w' =>
      e = .returned (shapeV k n s) ∧ Below w.heap.size w w' := by
  have HK : Hid (kindV k n s = .iface 173 (.agg #[])) := by
    unfold Hid kindV
    rw [if_neg (by omega), if_neg (by omega), if_neg (by omega), if_neg (by omega)]
  have HO : Hid (okV k n s = false) := by
    unfold Hid okV
    rw [if_neg (by omega), if_neg (by omega), if_neg (by omega), if_neg (by omega)]
  clear h
  have HS : Hid (shapeV k n s = .iface 173 (.agg #[])) := by
    unfold Hid shapeV; rw [HO.out]; simp
  go_enter Tryz.func152, Tryz.ntmps152
  go_wp2_with fail
  refine (shapeByKind_any k n s _).mono ?_
  rintro e w' ⟨rfl, hb⟩
  rw [HK.out]
  go_wp2_with fail
  first | go_region_with (go_at_call 160; refine (shapeOk_wrong _).mono ?_; rintro e w2 ⟨rfl, hb2⟩) | fail
  all_goals
    go_wp2
    go_ret
    exact ⟨by rw [HS.out]; rfl, (by repeat' (first | (with_reducible exact Below.refl _ _) | (with_reducible refine Below.drew ?_) | (with_reducible refine balloc ?_ _) | (with_reducible refine bset ?_ _ ?_) | (with_reducible refine bstep ?_ (by with_reducible assumption)) | go_size))⟩

theorem shapeOf_any (k n : Int) (s : ByteArray) (w : World) (hs : s.size ≤ maxLen) :
    Calls Tryz.prog 152 #[.agg #[.int .i64 k, .int .i64 n, .string s]] w fun e w' =>
      e = .returned (shapeV k n s) ∧ Below w.heap.size w w' := by
  by_cases h0 : k = 0
  · subst h0; exact shapeOf_none n s w
  by_cases h1 : k = 1
  · subst h1; exact shapeOf_number n s w
  by_cases h2 : k = 2
  · subst h2; exact shapeOf_text n s w hs
  by_cases h3 : 3 ≤ k ∧ k ≤ 5
  · exact shapeOf_place k n s w h3.1 h3.2
  · exact shapeOf_other k n s w (by omega)

end Go.Proofs.YtcpnofagnnncoaaGreatDoor

/-
  Which Values are numbers to the program and to its model: the same ones, at every Value.
-/
namespace Go.Proofs.YtcpnofagnnncoaaGreatDoor
open Go.RowKit
attribute [local go_sem] asNoneOfNumber asNumberOfNumber asTextOfNumber asPlaceOfNumber asWrongOfNumber

/-- Is it a right VaNumber? -/
def isN (k n : Int) (s : ByteArray) : Bool := decide (k = 1) && okV k n s

theorem shapeV_yes {k n : Int} {s : ByteArray} (h : isN k n s = true) : shapeV k n s = .iface 140 (.agg #[.int .i64 n]) := by
  simp only [isN, Bool.and_eq_true, decide_eq_true_eq] at h
  obtain ⟨rfl, h⟩ := h
  unfold shapeV
  rw [if_pos h]
  rfl
theorem shapeV_no {k n : Int} {s : ByteArray} (h : isN k n s = false) : ∃ v, shapeV k n s = .iface 162 v ∨ shapeV k n s = .iface 143 v ∨ shapeV k n s = .iface 182 v ∨ shapeV k n s = .iface 173 v := by
  unfold shapeV
  cases ho : okV k n s
  · exact ⟨_, .inr (.inr (.inr rfl))⟩
  · simp [isN, ho] at h
    rw [if_pos rfl]
    unfold kindV
    by_cases h0 : k = 0
    · rw [if_pos h0]; exact ⟨_, .inl rfl⟩
    rw [if_neg h0, if_neg h]
    by_cases h2 : k = 2
    · rw [if_pos h2]; exact ⟨_, .inr (.inl rfl)⟩
    rw [if_neg h2]
    by_cases h3 : 3 ≤ k ∧ k ≤ 5
    · rw [if_pos h3]; exact ⟨_, .inr (.inr (.inl rfl))⟩
    · rw [if_neg h3]; exact ⟨_, .inr (.inr (.inr rfl))⟩

/-- impl.ValueOk. -/
theorem shapeOk_any (k n : Int) (s : ByteArray) (w : World) (hs : s.size ≤ maxLen) :
    Calls Tryz.prog 160 #[shapeV k n s] w fun e w' => e = .returned (.bool (okV k n s)) ∧ Below w.heap.size w w' := by
  unfold shapeV
  cases ho : okV k n s
  · exact shapeOk_wrong w
  rw [if_pos rfl]
  have H := ho
  unfold okV at ho
  unfold kindV
  by_cases h0 : k = 0
  · rw [if_pos h0]; exact shapeOk_none w
  rw [if_neg h0] at ho ⊢
  by_cases h1 : k = 1
  · rw [if_pos h1] at ho ⊢
    simp only [Bool.and_eq_true] at ho
    rw [← ho.1]; exact shapeOk_number n w
  rw [if_neg h1] at ho ⊢
  by_cases h2 : k = 2
  · rw [if_pos h2] at ho ⊢
    simp only [Bool.and_eq_true] at ho
    rw [← ho.1]; exact shapeOk_text s w hs
  rw [if_neg h2] at ho ⊢
  by_cases h3 : 3 ≤ k ∧ k ≤ 5
  · rw [if_pos h3] at ho ⊢
    simp only [Bool.and_eq_true] at ho
    rw [← ho.1]; exact shapeOk_place k n w
  rw [if_neg h3] at ho
  exact absurd ho (by decide)

end Go.Proofs.YtcpnofagnnncoaaGreatDoor
