/- Lists of lists of numbers as arguments: opened. -/
import Derived.Test.YtmigkbimdjiigaaOpen4
import Derived.Test.YtmigkbimdjiigaaRowsL
set_option linter.unusedVariables false
set_option linter.unusedSimpArgs false
namespace Go.Proofs.Ytmigkbimdjiigaa
open Go.ChangeShapes Go.WideShapes Go.ChangeAt Go.RowKit Go.Joins Go.Deep Tinker

section
variable {H : Type} {enc : TypeId × Value → H} {W : World} {d : DataW H} {p : List MemPlace} {r : Reach} {base : Nat} {v : Value}

set_option maxRecDepth 100000 in
theorem open_famV (hv : Value.okWide Try.prog W r base 22 v) (h : DataW.Trod enc Try.prog W 0 (fun _ => true) true 22 v d p) :
    ∃ a cap, ∃ fs : List (List Int), v = .slice a fs.length cap ∧ RowsAt W a fs ∧ (a = none → cap = 0) := by
  obtain ⟨fuel, hf⟩ := h
  obtain ⟨a0, len, cap, rfl⟩ := okWide_slice Try.underlying22 hv
  rcases open_slice Try.underlying22 hf with ⟨hcs, hx⟩ | ⟨a, len', cap', m, n, D, Pl, hcs, _, hl, hm, hmm, hx, hall⟩
  · simp [Value.cells] at hcs
    obtain ⟨rfl, rfl, rfl⟩ := hcs
    exact ⟨none, 0, [], rfl, .inl rfl, fun _ => rfl⟩
  · simp [Value.cells] at hcs
    obtain ⟨rfl, rfl, rfl⟩ := hcs
    have each : ∀ i, i < len → ∃ z : List Int, ∃ a' c', W.cell? (a.add (i * 1)) = some (.slice a' z.length c') ∧ IntsAt W a' z := by
      intro i hi
      obtain ⟨cs', h1, h2⟩ := hall i (by rw [hmm]; simp; omega)
      rw [o_intsl] at h1
      obtain ⟨_, hlen, hcell⟩ := World.cells?_some h1
      match cs', hlen with
      | [v0], _ =>
        obtain ⟨a', c', z, e0, hi', _⟩ := open_ints1 h2
        subst e0
        have c0 := hcell 0 (by omega)
        rw [add_add] at c0
        exact ⟨z, a', c', by simpa using c0, hi'⟩
    have each' : ∀ i, ∃ z : List Int, i < len → ∃ a' c', W.cell? (a.add (i * 1)) = some (.slice a' z.length c') ∧ IntsAt W a' z := fun i => by
      by_cases hi : i < len
      · obtain ⟨t, h⟩ := each i hi; exact ⟨t, fun _ => h⟩
      · exact ⟨[], fun h => absurd h hi⟩
    obtain ⟨F, hF⟩ := Classical.axiomOfChoice each'
    refine ⟨some a, cap, (List.range len).map F, by simp, ?_, fun h => by cases h⟩
    rcases Nat.eq_zero_or_pos len with h0 | h0
    · left; subst h0; simp
    · right
      obtain ⟨b, off, spot⟩ := a
      obtain ⟨_, _, c0, _⟩ := hF 0 h0
      have hspot : spot = none := by simpa [Addr.add] using World.cell?_spot c0
      subst hspot
      refine ⟨b, off, rfl, World.block_lt_of_cell? W _ c0, fun j t hj => ?_⟩
      have hj' : j < len := by simpa using (List.getElem?_eq_some_iff.1 hj).1
      have hl : F j = t := by simpa [hj'] using hj
      obtain ⟨a', c', c0, hi⟩ := hF j hj'
      rw [hl] at c0 hi
      rw [Addr.add_mid, Nat.mul_one] at c0
      exact ⟨a', c', c0, hi⟩
end

end Go.Proofs.Ytmigkbimdjiigaa
