/- CodeSteps: the walk. -/
import Derived.Test.YtmpghapfldjfeaaBefB
import Derived.Test.YtmpghapfldjfeaaLines
import Derived.Test.YtmpghapfldjfeaaRSl
import Derived.Test.YtmpghapfldjfeaaPlain
set_option linter.unusedVariables false
set_option linter.unusedSimpArgs false
namespace Go.Proofs.Ytmpghapfldjfeaa
open Go.RowKit Tinker

theorem asc_get : ∀ {st : List (Nat × List Int)} {j k a b : Nat} {u v : List Int}, asc st → st[j]? = some (a, u) → st[k]? = some (b, v) → j < k → a < b
  | x :: r, 0, k + 1, a, b, u, v, h, h1, h2, _ => by
    rw [asc, List.pairwise_cons] at h
    simp at h1 h2
    subst h1
    exact h.1 _ (mem_of_get h2)
  | x :: r, j + 1, k + 1, a, b, u, v, h, h1, h2, hjk => by
    rw [asc, List.pairwise_cons] at h
    simp at h1 h2
    exact asc_get h.2 h1 h2 (by omega)
theorem linesOf_get {st : List (Nat × List Int)} {k a : Nat} {u : List Int} (h : st[k]? = some (a, u)) : (linesOf st)[k]? = some (a : Int) := by unfold linesOf; rw [List.getElem?_map, h]; rfl
theorem linesOf_len (st : List (Nat × List Int)) : (linesOf st).length = st.length := by simp [linesOf]
theorem isSetB_lines {st : List (Nat × List Int)} (h : asc st) : isSetB (linesOf st) = true := by
  rw [isSetB_iff]
  intro i hi
  rw [linesOf_len] at hi
  obtain ⟨⟨a, u⟩, hx⟩ := get_of_lt (show i < st.length by omega)
  obtain ⟨⟨b, v⟩, hy⟩ := get_of_lt hi
  rw [getD_of_get (linesOf_get hx), getD_of_get (linesOf_get hy)]
  have := asc_get h hx hy (by omega)
  omega
theorem bef_step {st : List (Nat × List Int)} {k a : Nat} {u : List Int} (h : asc st) (hx : st[k]? = some (a, u)) : befAt st a = some u :=
  befAt_at hx fun j y hj hy => by
    obtain ⟨b, v⟩ := y
    have := asc_get h hy hx hj
    show b ≠ a
    omega
theorem stAt_len {st : List (Nat × List Int)} {e : List Int} (h : ∀ x ∈ st, x.2.length = 4) (he : e.length = 4) (k : Nat) : (stAt st e k).length = 4 := by
  rcases Nat.lt_or_ge k st.length with hk | hk
  · obtain ⟨⟨a, u⟩, hx⟩ := get_of_lt hk
    rw [stAt_lt hx]; exact h _ (mem_of_get hx)
  · rw [stAt_ge hk]; exact he
/-- Where the states before and after a step differ, there its line writes. -/
theorem step_differ {ps : List L} {s : List Int} {k a : Nat} {u : List Int} {r : Nat} (hx : (runS ps s)[k]? = some (a, u)) (hne : (stAt (runS ps s) (runE ps s) k).getD r 0 ≠ (stAt (runS ps s) (runE ps s) (k + 1)).getD r 0) :
    ∃ l, ps[a]? = some l ∧ Tinker.wr l = true ∧ l.to.toNat = r := by
  obtain ⟨l, hl, e⟩ := tr_next _ 0 s (Nat.le_refl _) k a u hx
  refine ⟨l, hl, ?_⟩
  by_cases hc : Tinker.wr l = true ∧ l.to.toNat = r
  · exact hc
  · exfalso
    apply hne
    rw [stAt_lt hx]
    unfold runS runE
    rw [e]
    exact (stp_other hc).symm

end Go.Proofs.Ytmpghapfldjfeaa
