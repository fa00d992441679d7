/- Has of the document (patches); what is needed, as sets; two numbers as an argument. -/
import Derived.Test.YtikblaebfpdngaaHtH
import Derived.Test.YtikblaebfpdngaaOpen7
set_option linter.unusedVariables false
set_option linter.unusedSimpArgs false
namespace Go.Proofs.Ytikblaebfpdngaa
open Go.RowKit Tinker

set_option maxRecDepth 100000 in
set_option maxHeartbeats 1000000 in
theorem rHas4_any (a : Option Addr) (c : Nat) (zs : List Int) (n : Int) (w : World) (hz : IntsAt w a zs) (hm : zs.length ≤ 1000) :
    Calls Try.prog 26 #[.slice a zs.length c, .int .i64 n] w fun e w' => e = .returned (.bool (hasB zs n)) ∧ w = w' := by
  go_enter Try.func26, Try.ntmps26
  go_wp2_with fail
  go_loopw [5] (fun s5 wr => ∃ k : Nat, k ≤ zs.length ∧ s5 = .int .i64 k ∧ (zs.take k).any (· == n) = false ∧ wr = w) (fun s5 _ => zs.length - (intOf s5).toNat)
  case atStart => exact ⟨0, Nat.zero_le _, rfl, by simp, rfl⟩
  case round =>
    obtain ⟨k, hk, rfl, hall, rfl⟩ := hrel
    have HA := Lib.hid hall
    clear hall
    by_cases hlt : k < zs.length
    · obtain ⟨b, off, x, rfl, hlb, hx, c0⟩ := hz.at_ hlt
      have HX := Lib.hid hx
      clear hx
      by_cases hn : x = n
      · have d1 : (x == n) = true := by simpa using hn
        have HI := Lib.hid (show hasB zs n = true from List.any_eq_true.2 ⟨x, mem_of_get HX.out, d1⟩)
        clear hn
        go_wp2_with fail
        go_ret
        exact ⟨ret_bool HI.out.symm, rfl⟩
      · have d1 : (x == n) = false := by simpa using hn
        have HN := Lib.hid (show (zs.take (k + 1)).any (· == n) = false by rw [List.take_add_one, HX.out, List.any_append, HA.out]; simp [d1])
        clear hn
        go_wp2_with fail
        go_roundw
        case rel => exact ⟨k + 1, by omega, by go_num, HN.out, by first | trivial | rfl⟩
        case measure => simp [intOf]; omega
    · have HI := Lib.hid (show hasB zs n = false by have := HA.out; rw [List.take_of_length_le (by omega)] at this; exact this)
      go_wp2_with fail
      go_ret
      exact ⟨ret_bool HI.out.symm, rfl⟩
theorem hasB_ints (s : List Nat) (m : Nat) : hasB (ints s) (m : Int) = s.contains m := by
  unfold hasB ints
  rw [List.any_map, Bool.eq_iff_iff, List.any_eq_true, List.contains_iff_mem]
  constructor
  · rintro ⟨x, hx, e⟩
    have e2 : ((x : Nat) : Int) = m := by simpa using e
    obtain rfl : x = m := by omega
    exact hx
  · intro hm; exact ⟨m, hm, by simp⟩
theorem ned_mem {h : List (List E)} {n m : Nat} (hn : n < h.length) : m ∈ nedN h n ↔ ndB h n m = true := by
  unfold nedN
  rw [List.mem_filter, List.mem_range]
  exact ⟨fun h => h.2, fun e => ⟨by have := ndB_lt n e; omega, e⟩⟩
theorem has_ned {h : List (List E)} {n m : Nat} (hn : n < h.length) : hasB (ints (nedN h n)) (m : Int) = ndB h n m := by
  rw [hasB_ints, Bool.eq_iff_iff, List.contains_iff_mem, ned_mem hn]
theorem has_ndd {h : List (List E)} {n m : Nat} (hn : n < h.length) : hasB (ints (nddN h m)) (n : Int) = ndB h n m := by
  rw [hasB_ints, Bool.eq_iff_iff, List.contains_iff_mem]
  unfold nddN
  rw [List.mem_filter, List.mem_range]
  exact ⟨fun h => h.2, fun e => ⟨hn, e⟩⟩
theorem ned_len {h : List (List E)} (h8 : h.length ≤ 8) (n : Nat) : (ints (nedN h n)).length ≤ 8 := by
  rw [ints_len]
  unfold nedN
  have := List.length_filter_le (ndB h n) (List.range h.length)
  rw [List.length_range] at this
  omega
theorem ndd_len {h : List (List E)} (h8 : h.length ≤ 8) (n : Nat) : (ints (nddN h n)).length ≤ 8 := by
  rw [ints_len]
  unfold nddN
  have := List.length_filter_le (fun m => ndB h m n) (List.range h.length)
  rw [List.length_range] at this
  omega
theorem vnC_0 {ps : List L} {h : List (List E)} {n : Int} (e : vnC ps h n = 0) : vst ps h = 0 ∧ ∃ m : Nat, n = (m : Int) ∧ m < h.length := by
  unfold vnC at e
  split at e
  · rename_i hv
    refine ⟨hv, ?_⟩
    split at e
    · rename_i hb
      obtain ⟨h1, h2⟩ := btw_true.1 hb
      exact ⟨n.toNat, by omega, by omega⟩
    · cases e
  · rename_i hv; exact absurd e hv
theorem vnC_of {ps : List L} {h : List (List E)} {m : Nat} (hv : vst ps h = 0) (hm : m < h.length) : vnC ps h (m : Int) = 0 := by
  unfold vnC
  rw [if_pos hv, if_pos (btw_true.2 ⟨by omega, by omega⟩)]

section
open Go.ChangeShapes Go.WideShapes Go.ChangeAt Go.Joins Go.Deep
theorem o_two7 : Try.prog.cellsOf 40 = 2 := by kernel_rfl
variable {H : Type} {enc : TypeId × Value → H} {W : World} {d : DataW H} {p : List MemPlace} {r : Reach} {base : Nat} {v : Value}
set_option maxRecDepth 100000 in
theorem open_two7V (hv : Value.okWide Try.prog W r base 40 v) (h : DataW.Trod enc Try.prog W 0 (fun _ => true) true 40 v d p) :
    ∃ n m : Int, v = .agg #[.int .i64 n, .int .i64 m] := by
  obtain ⟨v0, v1, y0, y1, n, rfl, _, _, h0, h1⟩ := open_agg2 Try.underlying40 (by kernel_rfl) o_two7 hv h
  obtain ⟨n0, e0, _, _⟩ := DataW.trod_int Try.underlying3 h0
  obtain ⟨n1, e1, _, _⟩ := DataW.trod_int Try.underlying3 h1
  simp only [List.cons.injEq, and_true] at e0 e1
  subst e0 e1
  exact ⟨n0, n1, rfl⟩
end

end Go.Proofs.Ytikblaebfpdngaa
