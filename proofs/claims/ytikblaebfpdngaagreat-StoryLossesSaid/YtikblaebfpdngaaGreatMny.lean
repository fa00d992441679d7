/- Several texts in one. -/
import Derived.Test.YtikblaebfpdngaaGreatTells
/- sorted, Passing, Failing of the document's answers; Many: contracts. -/
set_option linter.unusedVariables false
set_option linter.unusedSimpArgs false
namespace Go.Proofs.YtikblaebfpdngaaGreat
open Go.RowKit Tinker

/-- Whether tests are many, or long. -/
def manyB (ts : List T) : Bool := decide (50 < ts.length) || ts.any (fun t => decide (100 < t.inn.length))
theorem many_no {ts : List T} (h : manyB ts = false) : ts.length ≤ 50 ∧ ∀ t ∈ ts, t.inn.length ≤ 100 := by
  unfold manyB at h
  simp only [Bool.or_eq_false_iff, decide_eq_false_iff_not] at h
  refine ⟨by omega, fun t ht => ?_⟩
  have := h.2
  rw [List.any_eq_false] at this
  have := this t ht
  simp at this
  omega

/-- Each one does just one of both. -/
theorem plc_both (f : T → Bool) : ∀ (ts : List T) (k : Nat), k ≤ ts.length → (plcTo (ts.map fun t => f t == true) k).length + (plcTo (ts.map fun t => f t == false) k).length = k
  | ts, 0, _ => by simp [plcTo]
  | ts, k + 1, h => by
    have ih := plc_both f ts k (by omega)
    obtain ⟨t, ht⟩ := get_of_lt (show k < ts.length by omega)
    cases hf : f t
    · rw [plcTo_no (l := ts.map fun t => f t == true) (by rw [List.getElem?_map, ht]; simp [hf]), plcTo_yes (l := ts.map fun t => f t == false) (by rw [List.getElem?_map, ht]; simp [hf])]
      rw [List.length_append]; simp only [List.length_singleton]; omega
    · rw [plcTo_yes (l := ts.map fun t => f t == true) (by rw [List.getElem?_map, ht]; simp [hf]), plcTo_no (l := ts.map fun t => f t == false) (by rw [List.getElem?_map, ht]; simp [hf])]
      rw [List.length_append]; simp only [List.length_singleton]; omega
theorem pL_both {ps : List L} {ts : List T} (h : vpt ps ts = 0) : (pL true ps ts).length + (pL false ps ts).length = ts.length := by
  rw [pL_ok h, pL_ok h]
  have := plc_both (pas ps) ts ts.length (Nat.le_refl _)
  unfold plc
  rw [List.length_map, List.length_map]
  exact this
theorem pL_le (b : Bool) (ps : List L) (ts : List T) : (pL b ps ts).length ≤ ts.length := by
  unfold pL
  split
  · have := plcTo_length (ts.map fun t => pas ps t == b) (ts.map fun t => pas ps t == b).length
    unfold plc
    simp only [List.length_map] at this ⊢
    exact this
  · simp

end Go.Proofs.YtikblaebfpdngaaGreat

/- Whether tests are many or long, for the statements about patches; a cap on an argument's tests. -/
set_option linter.unusedVariables false
set_option linter.unusedSimpArgs false
namespace Go.Proofs.YtikblaebfpdngaaGreat
open Go.RowKit Tinker

def manyC (ts : List T) : Bool := ts.any (fun t => decide (50 < t.inn.length)) || decide (50 < ts.length)
theorem manyC_no {ts : List T} (h : manyC ts = false) : ts.length ≤ 50 ∧ ∀ t ∈ ts, t.inn.length ≤ 50 := by
  unfold manyC at h
  simp only [Bool.or_eq_false_iff, decide_eq_false_iff_not] at h
  refine ⟨by omega, fun t ht => ?_⟩
  have := h.1
  rw [List.any_eq_false] at this
  have := this t ht
  simp at this
  omega

set_option maxRecDepth 100000 in
set_option maxHeartbeats 1000000 in
theorem many4_any (g : Option Addr) (cap : Nat) (ts : List T) (w : World) (hts : TestsAt w g ts) (hm : ts.length ≤ maxLen) :
    Calls Tryz.prog 27 #[.slice g ts.length cap] w fun e w' => e = .returned (.bool (manyC ts)) ∧ Below w.heap.size w w' := by
  have hm2 : ts.length ≤ 9223372036854775807 := hm
  clear hm
  go_enter Tryz.func27, Tryz.ntmps27
  go_wp2_with fail
  go_loopw [3] (fun s wr => ∃ k : Nat, k ≤ ts.length ∧ s = .int .i64 k ∧ (ts.take k).any (fun t => decide (50 < t.inn.length)) = false ∧ Below w.heap.size w wr) (fun s _ => ts.length - (intOf s).toNat)
  case atStart => exact ⟨0, Nat.zero_le _, rfl, by simp, Below.refl _ _⟩
  case round =>
    obtain ⟨k, hk, rfl, hall, hB⟩ := hrel
    have HA := Lib.hid hall
    clear hall
    by_cases hlt : k < ts.length
    · obtain ⟨b, off, t, a, c, rfl, hlb, ht, c0, c1, c2, hi⟩ := (hts.below hB (Nat.le_refl _)).at_ hlt
      have HT := Lib.hid ht
      clear ht hi
      by_cases hv : (50 : Int) < (t.inn.length : Int)
      · have HX := Lib.hid (show manyC ts = true by unfold manyC; rw [show ts.any (fun t => decide (50 < t.inn.length)) = true from List.any_eq_true.2 ⟨t, mem_of_get HT.out, by simp; omega⟩]; rfl)
        go_wp2_with fail
        go_ret
        exact ⟨ret_bool HX.out.symm, hB⟩
      · have HV := Lib.hid (show decide (50 < t.inn.length) = false by simp; omega)
        go_wp2_with fail
        go_roundw
        case rel => exact ⟨k + 1, by omega, by go_num, by rw [List.take_add_one, HT.out, List.any_append, HA.out]; show (false || ([t].any _)) = false; simp only [List.any_cons, HV.out, List.any_nil]; rfl, hB⟩
        case measure => simp [intOf]; omega
    · have HX := Lib.hid (show manyC ts = decide ((50 : Int) < (ts.length : Int)) by
        unfold manyC
        have := HA.out
        rw [List.take_of_length_le (by omega)] at this
        rw [this]
        simp
        omega)
      go_wp2_with fail
      go_ret
      exact ⟨ret_bool HX.out.symm, hB⟩

end Go.Proofs.YtikblaebfpdngaaGreat
