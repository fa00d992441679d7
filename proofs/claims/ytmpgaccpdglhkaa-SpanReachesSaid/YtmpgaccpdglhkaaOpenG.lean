/- A list of ranges as an argument: opened. -/
import Derived.Test.YtmpgaccpdglhkaaSpB
import Derived.Test.YtmpgaccpdglhkaaOpen2
import Derived.ChangeSame
set_option linter.unusedVariables false
set_option linter.unusedSimpArgs false
namespace Go.Proofs.Ytmpgaccpdglhkaa
open Go.ChangeShapes Go.WideShapes Go.ChangeAt Go.RowKit Go.Joins Go.Deep Tinker

theorem o_range : Try.prog.cellsOf 52 = 2 := by kernel_rfl

section
variable {H : Type} {enc : TypeId × Value → H} {W : World} {d : DataW H} {p : List MemPlace} {r : Reach} {base : Nat} {v : Value}

set_option maxRecDepth 100000 in
theorem open_rangesV (hv : Value.okWide Try.prog W r base 23 v) (h : DataW.Trod enc Try.prog W 0 (fun _ => true) true 23 v d p) :
    ∃ a cap, ∃ ps : List Rg, v = .slice a ps.length cap ∧ RangesAt W a ps ∧ (a = none → cap = 0) := by
  obtain ⟨fuel, hf⟩ := h
  obtain ⟨a0, len, cap, rfl⟩ := okWide_slice Try.underlying23 hv
  rcases open_slice Try.underlying23 hf with ⟨hcs, hx⟩ | ⟨a, len', cap', m, n, D, Pl, hcs, _, hl, hm, hmm, hx, hall⟩
  · simp [Value.cells] at hcs
    obtain ⟨rfl, rfl, rfl⟩ := hcs
    exact ⟨none, 0, [], rfl, .inl rfl, fun _ => rfl⟩
  · simp [Value.cells] at hcs
    obtain ⟨rfl, rfl, rfl⟩ := hcs
    have each : ∀ i, i < len → ∃ l : Rg, W.cell? (a.add (i * 2)) = some (.int .i64 l.lo) ∧ W.cell? (a.add (i * 2 + 1)) = some (.int .i64 l.hi) := by
      intro i hi
      obtain ⟨cs', h1, h2⟩ := hall i (by rw [hmm]; simp; omega)
      rw [o_range] at h1
      obtain ⟨_, hlen, hcell⟩ := World.cells?_some h1
      obtain ⟨y0, y1, n', hx, _, g0, g1⟩ := trod_struct2 Try.underlying52 h2
      match cs', hlen with
      | [v0, v1], _ =>
        simp [o_int] at g0 g1
        obtain ⟨n0, e0, _, _⟩ := DataW.trod_int Try.underlying3 g0
        obtain ⟨n1, e1, _, _⟩ := DataW.trod_int Try.underlying3 g1
        simp at e0 e1
        subst e0 e1
        have c0 := hcell 0 (by omega)
        have c1 := hcell 1 (by omega)
        rw [add_add] at c0 c1
        exact ⟨⟨n0, n1⟩, by simpa using c0, by simpa using c1⟩
    have each' : ∀ i, ∃ l : Rg, i < len → W.cell? (a.add (i * 2)) = some (.int .i64 l.lo) ∧ W.cell? (a.add (i * 2 + 1)) = some (.int .i64 l.hi) := fun i => by
      by_cases hi : i < len
      · obtain ⟨l, h⟩ := each i hi; exact ⟨l, fun _ => h⟩
      · exact ⟨⟨0, 0⟩, fun h => absurd h hi⟩
    obtain ⟨F, hF⟩ := Classical.axiomOfChoice each'
    refine ⟨some a, cap, (List.range len).map F, by simp, ?_, fun h => by cases h⟩
    rcases Nat.eq_zero_or_pos len with h0 | h0
    · left; subst h0; simp
    · right
      obtain ⟨b, off, spot⟩ := a
      obtain ⟨c0, _⟩ := hF 0 h0
      have hspot : spot = none := by simpa [Addr.add] using World.cell?_spot c0
      subst hspot
      refine ⟨b, off, rfl, World.block_lt_of_cell? W _ c0, fun j l hj => ?_⟩
      have hj' : j < len := by simpa using (List.getElem?_eq_some_iff.1 hj).1
      have hl : F j = l := by simpa [hj'] using hj
      obtain ⟨c0, c1⟩ := hF j hj'
      rw [hl, Addr.add_mid] at c0 c1
      exact ⟨c0, c1⟩
end

end Go.Proofs.Ytmpgaccpdglhkaa
