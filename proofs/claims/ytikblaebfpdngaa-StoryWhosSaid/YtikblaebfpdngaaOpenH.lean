/- Histories as arguments: opened. -/
import Derived.Test.YtikblaebfpdngaaOpen7
import Derived.Test.YtikblaebfpdngaaPtS
set_option linter.unusedVariables false
set_option linter.unusedSimpArgs false
namespace Go.Proofs.Ytikblaebfpdngaa
open Go.ChangeShapes Go.WideShapes Go.ChangeAt Go.RowKit Go.Joins Go.Deep Tinker

theorem o_edsl : Try.prog.cellsOf 46 = 1 := by kernel_rfl

section
variable {H : Type} {enc : TypeId × Value → H} {W : World} {d : DataW H} {p : List MemPlace} {r : Reach} {base : Nat} {v : Value}

set_option maxRecDepth 100000 in
theorem open_edits1 {fuel : Nat} {x : DataW H × List MemPlace} (hf : DataW.trod enc Try.prog W 0 (fun _ => true) true fuel 46 [v] = some x) :
    ∃ a cap, ∃ xs : List E, v = .slice a xs.length cap ∧ EditsAt W a xs ∧ (a = none → cap = 0) := by
  rcases open_slice Try.underlying46 hf with ⟨hcs, hx⟩ | ⟨a, len, cap, m, n, D, Pl, hcs, _, hl, hm, hmm, hx, hall⟩
  · simp only [List.cons.injEq, and_true] at hcs
    subst hcs
    exact ⟨none, 0, [], rfl, .inl rfl, fun _ => rfl⟩
  · simp only [List.cons.injEq, and_true] at hcs
    subst hcs
    have each : ∀ i, i < len → ∃ e : E, EC W a i e := by
      intro i hi
      obtain ⟨cs', h1, h2⟩ := hall i (by rw [hmm]; simp; omega)
      rw [o_edit] at h1
      obtain ⟨_, hlen, hcell⟩ := World.cells?_some h1
      obtain ⟨z0, z1, n1, hx1, _, f0, f1⟩ := trod_struct2 Try.underlying50 h2
      match cs', hlen with
      | [v0, v1, v2, v3, v4], _ =>
        simp [o_int, o_line] at f0 f1
        obtain ⟨y0, y1, y2, y3, n', hx', _, g0, g1, g2, g3⟩ := trod_struct4 Try.underlying33 f1
        simp [o_int] at g0 g1 g2 g3
        obtain ⟨na, ea, _, _⟩ := DataW.trod_int Try.underlying3 f0
        obtain ⟨n0, e0, _, _⟩ := DataW.trod_int Try.underlying3 g0
        obtain ⟨n1, e1, _, _⟩ := DataW.trod_int Try.underlying3 g1
        obtain ⟨n2, e2, _, _⟩ := DataW.trod_int Try.underlying3 g2
        obtain ⟨n3, e3, _, _⟩ := DataW.trod_int Try.underlying3 g3
        simp at ea e0 e1 e2 e3
        subst ea e0 e1 e2 e3
        have c0 := hcell 0 (by omega)
        have c1 := hcell 1 (by omega)
        have c2 := hcell 2 (by omega)
        have c3 := hcell 3 (by omega)
        have c4 := hcell 4 (by omega)
        rw [add_add] at c0 c1 c2 c3 c4
        exact ⟨⟨na, ⟨n0, n1, n2, n3⟩⟩, by simpa using c0, by simpa using c1, by simpa using c2, by simpa using c3, by simpa using c4⟩
    have each' : ∀ i, ∃ e : E, i < len → EC W a i e := fun i => by
      by_cases hi : i < len
      · obtain ⟨l, h⟩ := each i hi; exact ⟨l, fun _ => h⟩
      · exact ⟨⟨0, ⟨0, 0, 0, 0⟩⟩, fun h => absurd h hi⟩
    obtain ⟨F, hF⟩ := Classical.axiomOfChoice each'
    refine ⟨some a, cap, (List.range len).map F, by simp, ?_, fun h => by cases h⟩
    rcases Nat.eq_zero_or_pos len with h0 | h0
    · left; subst h0; simp
    · right
      obtain ⟨b, off, spot⟩ := a
      obtain ⟨c0, _, _, _, _⟩ := hF 0 h0
      have hspot : spot = none := by simpa [Addr.add] using World.cell?_spot c0
      subst hspot
      refine ⟨b, off, rfl, World.block_lt_of_cell? W _ c0, fun j l hj => ?_⟩
      have hj' : j < len := by simpa using (List.getElem?_eq_some_iff.1 hj).1
      have hl : F j = l := by simpa [hj'] using hj
      obtain ⟨c0, c1, c2, c3, c4⟩ := hF j hj'
      rw [hl, Addr.add_mid] at c0 c1 c2 c3 c4
      exact ⟨c0, c1, c2, c3, c4⟩

set_option maxRecDepth 100000 in
theorem open_histV (hv : Value.okWide Try.prog W r base 23 v) (h : DataW.Trod enc Try.prog W 0 (fun _ => true) true 23 v d p) :
    ∃ a cap, ∃ fs : List (List E), v = .slice a fs.length cap ∧ RowsEAt W a fs ∧ (a = none → cap = 0) ∧ fs.length ≤ cap ∧ fs.length ≤ maxLen := by
  obtain ⟨fuel, hf⟩ := h
  obtain ⟨a0, len, cap, rfl⟩ := okWide_slice Try.underlying23 hv
  rcases open_slice Try.underlying23 hf with ⟨hcs, hx⟩ | ⟨a, len', cap', m, n, D, Pl, hcs, _, hl, hm, hmm, hx, hall⟩
  · simp [Value.cells] at hcs
    obtain ⟨rfl, rfl, rfl⟩ := hcs
    exact ⟨none, 0, [], rfl, .inl rfl, fun _ => rfl, Nat.le_refl _, Nat.zero_le _⟩
  · simp [Value.cells] at hcs
    obtain ⟨rfl, rfl, rfl⟩ := hcs
    have each : ∀ i, i < len → ∃ z : List E, ∃ a' c', W.cell? (a.add (i * 1)) = some (.slice a' z.length c') ∧ EditsAt W a' z := by
      intro i hi
      obtain ⟨cs', h1, h2⟩ := hall i (by rw [hmm]; simp; omega)
      rw [o_edsl] at h1
      obtain ⟨_, hlen, hcell⟩ := World.cells?_some h1
      match cs', hlen with
      | [v0], _ =>
        obtain ⟨a', c', z, e0, hi', _⟩ := open_edits1 h2
        subst e0
        have c0 := hcell 0 (by omega)
        rw [add_add] at c0
        exact ⟨z, a', c', by simpa using c0, hi'⟩
    have each' : ∀ i, ∃ z : List E, i < len → ∃ a' c', W.cell? (a.add (i * 1)) = some (.slice a' z.length c') ∧ EditsAt W a' z := fun i => by
      by_cases hi : i < len
      · obtain ⟨t, h⟩ := each i hi; exact ⟨t, fun _ => h⟩
      · exact ⟨[], fun h => absurd h hi⟩
    obtain ⟨F, hF⟩ := Classical.axiomOfChoice each'
    refine ⟨some a, cap, (List.range len).map F, by simp, ?_, (fun h => by cases h), (by rw [List.length_map, List.length_range]; exact hl), (by rw [List.length_map, List.length_range]; exact Nat.le_trans hl hm)⟩
    rcases Nat.eq_zero_or_pos len with h0 | h0
    · left; subst h0; simp
    · right
      obtain ⟨b, off, spot⟩ := a
      obtain ⟨_, _, c0, _⟩ := hF 0 h0
      have hspot : spot = none := by simpa [Addr.add] using World.cell?_spot c0
      subst hspot
      refine ⟨b, off, rfl, World.block_lt_of_cell? W _ c0, fun j t hj => ?_⟩
      have hj' : j < len := by simpa using (List.getElem?_eq_some_iff.1 hj).1
      have hl : F j = t := by simpa [hj'] using hj
      obtain ⟨a', c', c0, hi⟩ := hF j hj'
      rw [hl] at c0 hi
      rw [Addr.add_mid, Nat.mul_one] at c0
      exact ⟨a', c', c0, hi⟩
end

end Go.Proofs.Ytikblaebfpdngaa
