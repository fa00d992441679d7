/- Run, Done of the document's answers; Before of both: contracts. -/
import Derived.Test.YtmigkbimdjiigaaTrB
set_option linter.unusedVariables false
set_option linter.unusedSimpArgs false
namespace Go.Proofs.Ytmigkbimdjiigaa
open Go.RowKit Tinker

/-- A slice of numbers in memory, and a code. -/
def GivesR (zs : List Int) (c : Int) (w : World) (e : Ending) (w' : World) : Prop :=
  ∃ a cap, e = .returned (.tuple #[.slice a zs.length cap, .int .i64 c]) ∧ IntsAt w' a zs ∧ Below w.heap.size w w'
theorem givesR_nil {c : Int} {w w' : World} (hB : Below w.heap.size w w') : GivesR [] c w (.returned (.tuple #[.slice none 0 0, .int .i64 c])) w' := ⟨none, 0, rfl, .inl rfl, hB⟩
theorem GivesIntsE.weak {zs : List Int} {c : Int} {w : World} {e : Ending} {w' : World} (h : GivesIntsE zs c w e w') : GivesR zs c w e w' := by
  obtain ⟨a, cap, he, ho, hb⟩ := h
  exact ⟨a, cap, he, (ints_of_own ho).1, hb⟩

theorem runS_lt {ps : List L} {s : List Int} : ∀ x ∈ runS ps s, x.1 < ps.length := fun x hx => (tr_from ps noF _ 0 s (Nat.le_refl _) x hx).2
theorem runS_asc {ps : List L} {s : List Int} : asc (runS ps s) := tr_asc ps noF _ 0 s (Nat.le_refl _)
theorem runS_ok {ps : List L} {s : List Int} (h : vr ps s = 0) : ∀ x ∈ runS ps s, okS x.2 := (tr_ok (okF_no ps) _ 0 s (Nat.le_refl _) (vs_ok (vr_ok h).2)).2
theorem asc_length : ∀ (n : Nat) (st : List (Nat × List Int)), asc st → ∀ m, (∀ x ∈ st, m ≤ x.1 ∧ x.1 < m + n) → st.length ≤ n
  | 0, [], _, _, _ => Nat.le_refl _
  | 0, x :: r, _, m, h => by have := h x (by simp); omega
  | n + 1, [], _, _, _ => Nat.zero_le _
  | n + 1, x :: r, ha, m, h => by
    have ha' := List.pairwise_cons.1 ha
    have := asc_length n r ha'.2 (m + 1) fun y hy => by
      have h1 := ha'.1 y hy
      have h2 := h y (List.mem_cons_of_mem _ hy)
      have h3 := h x (by simp)
      omega
    simp; omega
theorem runS_len {ps : List L} {s : List Int} : (runS ps s).length ≤ ps.length := asc_length _ _ runS_asc 0 fun x hx => by have := runS_lt x hx; omega

theorem linesOf_snoc {st : List (Nat × List Int)} {k i : Nat} {s : List Int} (h : st[k]? = some (i, s)) : linesOf (st.take (k + 1)) = linesOf (st.take k) ++ [(i : Int)] := by
  rw [take_snoc h]; simp [linesOf]

end Go.Proofs.Ytmigkbimdjiigaa
