/-
  Chapter 4 in plain words: what a sum and a deed come to at each word.
-/
import Derived.Test.YtlmibonebiaocaaDoorFormL
namespace Go.Proofs.YtlmibonebiaocaaDoor
open Go.RowKit

theorem isW_lit (c d : List UInt8) : isW ⟨c.toArray⟩ d = (c == d) := by
  unfold isW
  rw [ByteArray.toList_eq]
theorem opB_lit (c : List UInt8) : opB ⟨c.toArray⟩ = ([[43], [45], [42], [60], [61], [38]] : List (List UInt8)).any fun x => x == c := by
  unfold opB opsL
  simp only [List.any_cons, List.any_nil, ByteArray.toList_eq]
theorem isW_of {s : ByteArray} {c : List UInt8} (h : s = ⟨c.toArray⟩) : isW s c = true := by rw [h, isW_lit]; simp
theorem isW_no {s : ByteArray} {c : List UInt8} (h : s ≠ ⟨c.toArray⟩) : isW s c = false := Bool.eq_false_iff.mpr fun hw => h (isW_eq hw)

section
variable {L : List ByteArray} {r : Nat → Int → Int} {i : Int}
theorem sumS_op (ho : isW (sgAt L i) [40] = true) (h : opB (sgAt L (i + 1)) = true) : sumS L r i = isE L (r 10 (i + 2)) [41] := by
  unfold sumS
  rw [if_pos ho, h]
  rfl
theorem sumS_get (ho : isW (sgAt L i) [40] = true) (h : sgAt L (i + 1) = ⟨#[103, 101, 116]⟩) : sumS L r i = isE L (r 10 (i + 2)) [41] := by
  unfold sumS
  rw [if_pos ho, h]
  simp only [isW_lit, opB_lit]
  rfl
theorem sumS_tget (ho : isW (sgAt L i) [40] = true) (h : sgAt L (i + 1) = ⟨#[116, 103, 101, 116]⟩) : sumS L r i = isE L (r 10 (i + 2)) [41] := by
  unfold sumS
  rw [if_pos ho, h]
  simp only [isW_lit, opB_lit]
  rfl
theorem sumS_fn (ho : isW (sgAt L i) [40] = true) (h : sgAt L (i + 1) = ⟨#[102, 110]⟩) : sumS L r i = isE L (r 6 (isE L (r 7 (isE L (i + 2) [40])) [41])) [41] := by
  unfold sumS
  rw [if_pos ho, h]
  simp only [isW_lit, opB_lit]
  rfl
theorem sumS_call (ho : isW (sgAt L i) [40] = true) (h : sgAt L (i + 1) = ⟨#[99, 97, 108, 108]⟩) : sumS L r i = isE L (r 4 (r 0 (i + 2))) [41] := by
  unfold sumS
  rw [if_pos ho, h]
  simp only [isW_lit, opB_lit]
  rfl
theorem sumS_thing (ho : isW (sgAt L i) [40] = true) (h : sgAt L (i + 1) = ⟨#[116, 104, 105, 110, 103]⟩) : sumS L r i = isE L (r 4 (i + 2)) [41] := by
  unfold sumS
  rw [if_pos ho, h]
  simp only [isW_lit, opB_lit]
  rfl
theorem sumS_join (ho : isW (sgAt L i) [40] = true) (h : sgAt L (i + 1) = ⟨#[106, 111, 105, 110]⟩) : sumS L r i = isE L (r 4 (i + 2)) [41] := by
  unfold sumS
  rw [if_pos ho, h]
  simp only [isW_lit, opB_lit]
  rfl
theorem sumS_table (ho : isW (sgAt L i) [40] = true) (h : sgAt L (i + 1) = ⟨#[116, 97, 98, 108, 101]⟩) : sumS L r i = isE L (i + 2) [41] := by
  unfold sumS
  rw [if_pos ho, h]
  simp only [isW_lit, opB_lit]
  rfl
theorem sumS_hget (ho : isW (sgAt L i) [40] = true) (h : sgAt L (i + 1) = ⟨#[104, 103, 101, 116]⟩) : sumS L r i = isE L (r 0 (nmE L (i + 2))) [41] := by
  unfold sumS
  rw [if_pos ho, h]
  simp only [isW_lit, opB_lit]
  rfl
theorem sumS_not (ho : isW (sgAt L i) [40] = true) (hop : opB (sgAt L (i + 1)) = false) (hget : sgAt L (i + 1) ≠ ⟨#[103, 101, 116]⟩) (htget : sgAt L (i + 1) ≠ ⟨#[116, 103, 101, 116]⟩) (hfn : sgAt L (i + 1) ≠ ⟨#[102, 110]⟩) (hcall : sgAt L (i + 1) ≠ ⟨#[99, 97, 108, 108]⟩) (hthing : sgAt L (i + 1) ≠ ⟨#[116, 104, 105, 110, 103]⟩) (hjoin : sgAt L (i + 1) ≠ ⟨#[106, 111, 105, 110]⟩) (htable : sgAt L (i + 1) ≠ ⟨#[116, 97, 98, 108, 101]⟩) (hhget : sgAt L (i + 1) ≠ ⟨#[104, 103, 101, 116]⟩) : sumS L r i = -1 := by
  unfold sumS
  rw [if_pos ho, hop, isW_no (c := [103, 101, 116]) hget, isW_no (c := [116, 103, 101, 116]) htget, isW_no (c := [102, 110]) hfn, isW_no (c := [99, 97, 108, 108]) hcall, isW_no (c := [116, 104, 105, 110, 103]) hthing, isW_no (c := [106, 111, 105, 110]) hjoin, isW_no (c := [116, 97, 98, 108, 101]) htable, isW_no (c := [104, 103, 101, 116]) hhget]
  rfl
theorem sumS_one (ho : isW (sgAt L i) [40] = false) (h : oneB (sgAt L i) = true) : sumS L r i = i + 1 := by
  unfold sumS
  rw [ho, h]
  rfl
theorem sumS_none (ho : isW (sgAt L i) [40] = false) (h : oneB (sgAt L i) = false) : sumS L r i = -1 := by
  unfold sumS
  rw [ho, h]
  rfl
theorem deedH_let : deedH L r ⟨#[108, 101, 116]⟩ i = isE L (r 0 (nmE L i)) [41] := by
  unfold deedH
  simp only [isW_lit]
  rfl
theorem deedH_set : deedH L r ⟨#[115, 101, 116]⟩ i = isE L (r 0 (nmE L i)) [41] := by
  unfold deedH
  simp only [isW_lit]
  rfl
theorem deedH_take : deedH L r ⟨#[116, 97, 107, 101]⟩ i = isE L (r 0 (isE L (r 5 (nmE L (isE L i [40]))) [41])) [41] := by
  unfold deedH
  simp only [isW_lit]
  rfl
theorem deedH_hidden : deedH L r ⟨#[104, 105, 100, 100, 101, 110]⟩ i = isE L (r 5 i) [41] := by
  unfold deedH
  simp only [isW_lit]
  rfl
theorem deedH_vars : deedH L r ⟨#[118, 97, 114, 115]⟩ i = isE L (r 5 i) [41] := by
  unfold deedH
  simp only [isW_lit]
  rfl
theorem deedH_do : deedH L r ⟨#[100, 111]⟩ i = isE L (r 6 i) [41] := by
  unfold deedH
  simp only [isW_lit]
  rfl
theorem deedH_if : deedH L r ⟨#[105, 102]⟩ i = isE L (r 2 (r 2 (r 0 i))) [41] := by
  unfold deedH
  simp only [isW_lit]
  rfl
theorem deedH_while : deedH L r ⟨#[119, 104, 105, 108, 101]⟩ i = isE L (r 2 (r 0 i)) [41] := by
  unfold deedH
  simp only [isW_lit]
  rfl
theorem deedH_for : deedH L r ⟨#[102, 111, 114]⟩ i = isE L (r 2 (r 10 (nmE L i))) [41] := by
  unfold deedH
  simp only [isW_lit]
  rfl
theorem deedH_say : deedH L r ⟨#[115, 97, 121]⟩ i = isE L (r 0 i) [41] := by
  unfold deedH
  simp only [isW_lit]
  rfl
theorem deedH_back : deedH L r ⟨#[98, 97, 99, 107]⟩ i = isE L (r 0 i) [41] := by
  unfold deedH
  simp only [isW_lit]
  rfl
theorem deedH_run : deedH L r ⟨#[114, 117, 110]⟩ i = isE L (r 0 i) [41] := by
  unfold deedH
  simp only [isW_lit]
  rfl
theorem deedH_leave : deedH L r ⟨#[108, 101, 97, 118, 101]⟩ i = isE L i [41] := by
  unfold deedH
  simp only [isW_lit]
  rfl
theorem deedH_next : deedH L r ⟨#[110, 101, 120, 116]⟩ i = isE L i [41] := by
  unfold deedH
  simp only [isW_lit]
  rfl
theorem deedH_put : deedH L r ⟨#[112, 117, 116]⟩ i = isE L (r 11 i) [41] := by
  unfold deedH
  simp only [isW_lit]
  rfl
theorem deedH_tput : deedH L r ⟨#[116, 112, 117, 116]⟩ i = isE L (r 11 i) [41] := by
  unfold deedH
  simp only [isW_lit]
  rfl
theorem deedH_hput : deedH L r ⟨#[104, 112, 117, 116]⟩ i = isE L (r 10 (nmE L i)) [41] := by
  unfold deedH
  simp only [isW_lit]
  rfl
theorem deedH_not {h : ByteArray} (hlet : h ≠ ⟨#[108, 101, 116]⟩) (hset : h ≠ ⟨#[115, 101, 116]⟩) (htake : h ≠ ⟨#[116, 97, 107, 101]⟩) (hhidden : h ≠ ⟨#[104, 105, 100, 100, 101, 110]⟩) (hvars : h ≠ ⟨#[118, 97, 114, 115]⟩) (hdo : h ≠ ⟨#[100, 111]⟩) (hif : h ≠ ⟨#[105, 102]⟩) (hwhile : h ≠ ⟨#[119, 104, 105, 108, 101]⟩) (hfor : h ≠ ⟨#[102, 111, 114]⟩) (hsay : h ≠ ⟨#[115, 97, 121]⟩) (hback : h ≠ ⟨#[98, 97, 99, 107]⟩) (hrun : h ≠ ⟨#[114, 117, 110]⟩) (hleave : h ≠ ⟨#[108, 101, 97, 118, 101]⟩) (hnext : h ≠ ⟨#[110, 101, 120, 116]⟩) (hput : h ≠ ⟨#[112, 117, 116]⟩) (htput : h ≠ ⟨#[116, 112, 117, 116]⟩) (hhput : h ≠ ⟨#[104, 112, 117, 116]⟩) : deedH L r h i = -1 := by
  unfold deedH
  rw [isW_no (c := [108, 101, 116]) hlet, isW_no (c := [115, 101, 116]) hset, isW_no (c := [116, 97, 107, 101]) htake, isW_no (c := [104, 105, 100, 100, 101, 110]) hhidden, isW_no (c := [118, 97, 114, 115]) hvars, isW_no (c := [100, 111]) hdo, isW_no (c := [105, 102]) hif, isW_no (c := [119, 104, 105, 108, 101]) hwhile, isW_no (c := [102, 111, 114]) hfor, isW_no (c := [115, 97, 121]) hsay, isW_no (c := [98, 97, 99, 107]) hback, isW_no (c := [114, 117, 110]) hrun, isW_no (c := [108, 101, 97, 118, 101]) hleave, isW_no (c := [110, 101, 120, 116]) hnext, isW_no (c := [112, 117, 116]) hput, isW_no (c := [116, 112, 117, 116]) htput, isW_no (c := [104, 112, 117, 116]) hhput]
  rfl
theorem decB_let : decB ⟨#[108, 101, 116]⟩ = true := by
  unfold decB
  simp only [isW_lit]
  rfl
theorem decB_set : decB ⟨#[115, 101, 116]⟩ = false := by
  unfold decB
  simp only [isW_lit]
  rfl
theorem decB_take : decB ⟨#[116, 97, 107, 101]⟩ = true := by
  unfold decB
  simp only [isW_lit]
  rfl
theorem decB_hidden : decB ⟨#[104, 105, 100, 100, 101, 110]⟩ = true := by
  unfold decB
  simp only [isW_lit]
  rfl
theorem decB_vars : decB ⟨#[118, 97, 114, 115]⟩ = true := by
  unfold decB
  simp only [isW_lit]
  rfl
theorem decB_do : decB ⟨#[100, 111]⟩ = false := by
  unfold decB
  simp only [isW_lit]
  rfl
theorem decB_if : decB ⟨#[105, 102]⟩ = false := by
  unfold decB
  simp only [isW_lit]
  rfl
theorem decB_while : decB ⟨#[119, 104, 105, 108, 101]⟩ = false := by
  unfold decB
  simp only [isW_lit]
  rfl
theorem decB_for : decB ⟨#[102, 111, 114]⟩ = false := by
  unfold decB
  simp only [isW_lit]
  rfl
theorem decB_say : decB ⟨#[115, 97, 121]⟩ = false := by
  unfold decB
  simp only [isW_lit]
  rfl
theorem decB_back : decB ⟨#[98, 97, 99, 107]⟩ = false := by
  unfold decB
  simp only [isW_lit]
  rfl
theorem decB_run : decB ⟨#[114, 117, 110]⟩ = false := by
  unfold decB
  simp only [isW_lit]
  rfl
theorem decB_leave : decB ⟨#[108, 101, 97, 118, 101]⟩ = false := by
  unfold decB
  simp only [isW_lit]
  rfl
theorem decB_next : decB ⟨#[110, 101, 120, 116]⟩ = false := by
  unfold decB
  simp only [isW_lit]
  rfl
theorem decB_put : decB ⟨#[112, 117, 116]⟩ = false := by
  unfold decB
  simp only [isW_lit]
  rfl
theorem decB_tput : decB ⟨#[116, 112, 117, 116]⟩ = false := by
  unfold decB
  simp only [isW_lit]
  rfl
theorem decB_hput : decB ⟨#[104, 112, 117, 116]⟩ = false := by
  unfold decB
  simp only [isW_lit]
  rfl
theorem decB_not {h : ByteArray} (hlet : h ≠ ⟨#[108, 101, 116]⟩) (htake : h ≠ ⟨#[116, 97, 107, 101]⟩) (hhidden : h ≠ ⟨#[104, 105, 100, 100, 101, 110]⟩) (hvars : h ≠ ⟨#[118, 97, 114, 115]⟩) : decB h = false := by
  unfold decB
  rw [isW_no (c := [108, 101, 116]) hlet, isW_no (c := [116, 97, 107, 101]) htake, isW_no (c := [104, 105, 100, 100, 101, 110]) hhidden, isW_no (c := [118, 97, 114, 115]) hvars]
  rfl
end

end Go.Proofs.YtlmibonebiaocaaDoor
