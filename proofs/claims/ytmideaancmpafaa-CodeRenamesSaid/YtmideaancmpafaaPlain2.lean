/- Plain mathematics, second part: what is valid. -/
import Derived.Test.YtmideaancmpafaaPlain
set_option linter.unusedVariables false
set_option linter.unusedSimpArgs false
namespace Tinker

/-- What Validate answers. -/
def vp (p : List L) : Int := if 8 < p.length then 3 else if p.all isLn then 0 else 1
/-- Whether all numbers are from lo to hi. -/
def allBtw (s : List Int) (lo hi : Int) : Bool := s.all (btw · lo hi)
/-- What ValidateState answers. -/
def vs (s : List Int) : Int := if s.length = 4 ∧ allBtw s (-999) 999 = true then 0 else 1
/-- The first error of two. -/
def fe (a b : Int) : Int := if a = 0 then b else a
/-- The errors of a program and a state. -/
def vr (p : List L) (s : List Int) : Int := fe (vp p) (vs s)
/-- Strictly ascending. -/
def isSetB : List Int → Bool
  | [] => true
  | [_] => true
  | x :: y :: r => decide (x < y) && isSetB (y :: r)

theorem vp_ok {p : List L} (h : vp p = 0) : p.length ≤ 8 ∧ ∀ l ∈ p, isLn l = true := by
  unfold vp at h
  split at h
  · omega
  · split at h
    · rename_i h1 h2; exact ⟨by omega, fun l hl => List.all_eq_true.1 h2 l hl⟩
    · omega
theorem vp_ok' {p : List L} (h1 : p.length ≤ 8) (h2 : ∀ l ∈ p, isLn l = true) : vp p = 0 := by
  unfold vp; rw [if_neg (by omega), if_pos (List.all_eq_true.2 h2)]
theorem vp_cases (p : List L) : vp p = 0 ∨ vp p = 3 ∨ vp p = 1 := by unfold vp; split <;> (try split) <;> simp
theorem vs_ok {s : List Int} (h : vs s = 0) : s.length = 4 ∧ ∀ n ∈ s, -999 ≤ n ∧ n ≤ 999 := by
  unfold vs at h
  split at h
  · rename_i h1; exact ⟨h1.1, fun n hn => btw_true.1 (List.all_eq_true.1 h1.2 n hn)⟩
  · omega
theorem vs_ok' {s : List Int} (h1 : s.length = 4) (h2 : ∀ n ∈ s, -999 ≤ n ∧ n ≤ 999) : vs s = 0 := by
  unfold vs; rw [if_pos ⟨h1, List.all_eq_true.2 fun n hn => btw_true.2 (h2 n hn)⟩]
theorem vs_cases (s : List Int) : vs s = 0 ∨ vs s = 1 := by unfold vs; split <;> simp
theorem vr_ok {p : List L} {s : List Int} (h : vr p s = 0) : vp p = 0 ∧ vs s = 0 := by
  unfold vr fe at h; split at h
  · exact ⟨by assumption, h⟩
  · contradiction
theorem vr_cases (p : List L) (s : List Int) : vr p s = 0 ∨ vr p s = 3 ∨ vr p s = 1 := by
  unfold vr fe
  rcases vp_cases p with h | h | h <;> rcases vs_cases s with h' | h' <;> simp [h, h']

/-- isSetB by places. -/
theorem isSetB_iff : ∀ (l : List Int), isSetB l = true ↔ ∀ i, i + 1 < l.length → l.getD i 0 < l.getD (i + 1) 0
  | [] => by simp [isSetB]
  | [x] => by simp [isSetB]
  | x :: y :: r => by
    rw [isSetB, Bool.and_eq_true, isSetB_iff (y :: r), decide_eq_true_eq]
    constructor
    · rintro ⟨h, h'⟩ i hi
      cases i with
      | zero => simpa using h
      | succ i => have := h' i (by simpa using hi); simpa using this
    · intro h
      exact ⟨by simpa using h 0 (by simp), fun i hi => by simpa using h (i + 1) (by simpa using hi)⟩

theorem getD_of_get {α : Type} {l : List α} {k : Nat} {x d : α} (h : l[k]? = some x) : l.getD k d = x := by
  rw [List.getD_eq_getElem?_getD, h]; rfl
theorem get_of_lt {α : Type} {l : List α} {k : Nat} (h : k < l.length) : ∃ x, l[k]? = some x := ⟨l[k], List.getElem?_eq_getElem h⟩
theorem take_snoc {α : Type} {l : List α} {k : Nat} {x : α} (h : l[k]? = some x) : l.take (k + 1) = l.take k ++ [x] := by
  obtain ⟨hk, rfl⟩ := List.getElem?_eq_some_iff.1 h
  rw [List.take_succ_eq_append_getElem hk]
theorem mem_of_get {α : Type} {l : List α} {k : Nat} {x : α} (h : l[k]? = some x) : x ∈ l := List.mem_of_getElem? h
theorem all_snoc {α : Type} {l : List α} {k : Nat} {x : α} {f : α → Bool} (h : (l.take k).all f = true) (hx : l[k]? = some x) (hf : f x = true) : (l.take (k + 1)).all f = true := by
  rw [take_snoc hx, List.all_append, h]; simp [hf]
theorem all_not {α : Type} {l : List α} {k : Nat} {x : α} {f : α → Bool} (hx : l[k]? = some x) (hf : f x = false) : l.all f = false := by
  rw [Bool.eq_false_iff]; intro h
  have := List.all_eq_true.1 h x (mem_of_get hx)
  rw [hf] at this; cases this
theorem all_whole {α : Type} {l : List α} {k : Nat} {f : α → Bool} (h : (l.take k).all f = true) (hk : ¬ k < l.length) : l.all f = true := by
  rwa [List.take_of_length_le (by omega)] at h
theorem vp_bad {p : List L} (h8 : p.length ≤ 8) (h : p.all isLn = false) : vp p = 1 := by unfold vp; rw [if_neg (by omega), if_neg (by simp [h])]
theorem vp_good {p : List L} (h8 : p.length ≤ 8) (h : p.all isLn = true) : vp p = 0 := by unfold vp; rw [if_neg (by omega), if_pos h]
theorem vp_large {p : List L} (h8 : 8 < p.length) : vp p = 3 := by unfold vp; rw [if_pos h8]

end Tinker
