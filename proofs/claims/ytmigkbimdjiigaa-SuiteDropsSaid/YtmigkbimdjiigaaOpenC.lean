/- Several texts in one. -/
import Derived.Test.YtmigkbimdjiigaaOpen6
/- Suites as arguments: how long. -/
set_option linter.unusedVariables false
set_option linter.unusedSimpArgs false
namespace Go.Proofs.Ytmigkbimdjiigaa
open Go.ChangeShapes Go.WideShapes Go.ChangeAt Go.RowKit Go.Joins Go.Deep Tinker

section
variable {H : Type} {enc : TypeId × Value → H} {W : World} {d : DataW H} {p : List MemPlace}

set_option maxRecDepth 100000 in
theorem open_suite_len {a : Option Addr} {n cap : Nat} (h : DataW.Trod enc Try.prog W 0 (fun _ => true) true 22 (.slice a n cap) d p) : n ≤ maxLen := by
  obtain ⟨fuel, hf⟩ := h
  rcases open_slice Try.underlying22 hf with ⟨hcs, hx⟩ | ⟨a, len', cap', m, k, D, Pl, hcs, _, hl, hm, hmm, hx, hall⟩
  · simp [Value.cells] at hcs
    rw [hcs.2.1]
    exact Nat.zero_le _
  · simp [Value.cells] at hcs
    rw [hcs.2.1]
    exact Nat.le_trans hl hm
end

end Go.Proofs.Ytmigkbimdjiigaa

/- Suites as arguments, with the room of their rows. -/
set_option linter.unusedVariables false
set_option linter.unusedSimpArgs false
namespace Go.Proofs.Ytmigkbimdjiigaa
open Go.ChangeShapes Go.WideShapes Go.ChangeAt Go.RowKit Go.Joins Go.Deep Tinker

/-- Rows in memory; a nil row has no room, and a row is no longer than its room. -/
def RowsK (w : World) (g : Option Addr) (fs : List (List Int)) : Prop :=
  fs = [] ∨ ∃ b off, g = some ⟨b, off, none⟩ ∧ b < w.heap.size ∧ ∀ j zs, fs[j]? = some zs → ∃ a c, w.cell? ⟨b, off + j, none⟩ = some (.slice a zs.length c) ∧ IntsAt w a zs ∧ (a = none → c = 0) ∧ zs.length ≤ c
theorem RowsK.at_ {w : World} {g : Option Addr} {fs : List (List Int)} (h : RowsK w g fs) : RowsAt w g fs := by
  rcases h with h | ⟨b, off, e, hlt, hc⟩
  · exact .inl h
  · exact .inr ⟨b, off, e, hlt, fun j zs hj => by
      obtain ⟨a, c, h1, h2, _⟩ := hc j zs hj
      exact ⟨a, c, h1, h2⟩⟩
theorem RowsK.below {w w' : World} {B : Nat} {g : Option Addr} {fs : List (List Int)} (h : RowsK w g fs) (hb : Below B w w') (hB : w.heap.size ≤ B) : RowsK w' g fs := by
  rcases h with h | ⟨b, off, e, hlt, hc⟩
  · exact .inl h
  · refine .inr ⟨b, off, e, Nat.lt_of_lt_of_le hlt hb.size, fun j zs hj => ?_⟩
    obtain ⟨a, c, h1, h2, h3⟩ := hc j zs hj
    exact ⟨a, c, (hb.cell (p := ⟨b, _, none⟩) (by show b < B; omega)).trans h1, h2.below hb hB, h3⟩
theorem RowsK.get {w : World} {g : Option Addr} {fs : List (List Int)} (h : RowsK w g fs) {k : Nat} (hk : k < fs.length) : ∃ b off zs a c, g = some ⟨b, off, none⟩ ∧ b < w.heap.size ∧ fs[k]? = some zs ∧ w.cell? ⟨b, off + k, none⟩ = some (.slice a zs.length c) ∧ IntsAt w a zs ∧ (a = none → c = 0) ∧ zs.length ≤ c := by
  obtain ⟨b, off, e, hlt, hc⟩ := h.resolve_left (by rintro rfl; simp at hk)
  obtain ⟨zs, hz⟩ := get_of_lt hk
  obtain ⟨a, c, h1, h2, h3⟩ := hc k zs hz
  exact ⟨b, off, zs, a, c, e, hlt, hz, h1, h2, h3⟩

theorem RowsK.rn {w : World} {g : Option Addr} {fs : List (List Int)} (h : RowsK w g fs) : RowsN w g fs := by
  rcases h with h | ⟨b, off, e, hlt, hc⟩
  · exact .inl h
  · exact .inr ⟨b, off, e, hlt, fun j zs hj => by
      obtain ⟨a, c, h1, h2, h3, _⟩ := hc j zs hj
      exact ⟨a, c, h1, h2, h3⟩⟩
section
variable {H : Type} {enc : TypeId × Value → H} {W : World} {d : DataW H} {p : List MemPlace} {r : Reach} {base : Nat} {v : Value}

set_option maxRecDepth 100000 in
theorem open_ints1c {fuel : Nat} {x : DataW H × List MemPlace} (hf : DataW.trod enc Try.prog W 0 (fun _ => true) true fuel 23 [v] = some x) :
    ∃ a cap, ∃ zs : List Int, v = .slice a zs.length cap ∧ IntsAt W a zs ∧ (a = none → cap = 0) ∧ zs.length ≤ cap := by
  rcases open_ints Try.underlying23 Try.underlying3 o_int hf with ⟨hcs, hx⟩ | ⟨a, len', cap', zs, hcs, _, hl, hm, hz, hx, hcell, hwz⟩
  · simp only [List.cons.injEq, and_true] at hcs
    subst hcs
    exact ⟨none, 0, [], rfl, .inl rfl, fun _ => rfl, Nat.le_refl _⟩
  · simp only [List.cons.injEq, and_true] at hcs
    subst hcs
    simp only [if_true] at hz
    have hlen : (zs.take len').length = len' := by rw [List.length_take]; omega
    refine ⟨some a, cap', zs.take len', by rw [hlen], ?_, (fun h => by cases h), by rw [hlen]; exact hl⟩
    rcases Nat.eq_zero_or_pos len' with h0 | h0
    · left; subst h0; simp
    · right
      obtain ⟨b, off, spot⟩ := a
      have c0 := hcell 0 (by omega)
      have hspot : spot = none := by simpa [Addr.add] using World.cell?_spot c0
      subst hspot
      refine ⟨b, off, rfl, World.block_lt_of_cell? W _ c0, fun j n hj => ?_⟩
      have hj' : j < len' := by have := (List.getElem?_eq_some_iff.1 hj).1; omega
      have c := hcell j (by omega)
      rw [List.getElem?_take_of_lt hj'] at hj
      rw [getD_of_get hj] at c
      rw [Addr.add_mid] at c
      exact c


set_option maxRecDepth 100000 in
theorem open_famK (hv : Value.okWide Try.prog W r base 22 v) (h : DataW.Trod enc Try.prog W 0 (fun _ => true) true 22 v d p) :
    ∃ a cap, ∃ fs : List (List Int), v = .slice a fs.length cap ∧ RowsK W a fs ∧ (a = none → cap = 0) := by
  obtain ⟨fuel, hf⟩ := h
  obtain ⟨a0, len, cap, rfl⟩ := okWide_slice Try.underlying22 hv
  rcases open_slice Try.underlying22 hf with ⟨hcs, hx⟩ | ⟨a, len', cap', m, n, D, Pl, hcs, _, hl, hm, hmm, hx, hall⟩
  · simp [Value.cells] at hcs
    obtain ⟨rfl, rfl, rfl⟩ := hcs
    exact ⟨none, 0, [], rfl, .inl rfl, fun _ => rfl⟩
  · simp [Value.cells] at hcs
    obtain ⟨rfl, rfl, rfl⟩ := hcs
    have each : ∀ i, i < len → ∃ z : List Int, ∃ a' c', W.cell? (a.add (i * 1)) = some (.slice a' z.length c') ∧ IntsAt W a' z ∧ (a' = none → c' = 0) ∧ z.length ≤ c' := by
      intro i hi
      obtain ⟨cs', h1, h2⟩ := hall i (by rw [hmm]; simp; omega)
      rw [o_intsl] at h1
      obtain ⟨_, hlen, hcell⟩ := World.cells?_some h1
      match cs', hlen with
      | [v0], _ =>
        obtain ⟨a', c', z, e0, hi', h0'⟩ := open_ints1c h2
        subst e0
        have c0 := hcell 0 (by omega)
        rw [add_add] at c0
        exact ⟨z, a', c', by simpa using c0, hi', h0'⟩
    have each' : ∀ i, ∃ z : List Int, i < len → ∃ a' c', W.cell? (a.add (i * 1)) = some (.slice a' z.length c') ∧ IntsAt W a' z ∧ (a' = none → c' = 0) ∧ z.length ≤ c' := fun i => by
      by_cases hi : i < len
      · obtain ⟨t, h⟩ := each i hi; exact ⟨t, fun _ => h⟩
      · exact ⟨[], fun h => absurd h hi⟩
    obtain ⟨F, hF⟩ := Classical.axiomOfChoice each'
    refine ⟨some a, cap, (List.range len).map F, by simp, ?_, fun h => by cases h⟩
    rcases Nat.eq_zero_or_pos len with h0 | h0
    · left; subst h0; simp
    · right
      obtain ⟨b, off, spot⟩ := a
      obtain ⟨_, _, c0, _⟩ := hF 0 h0
      have hspot : spot = none := by simpa [Addr.add] using World.cell?_spot c0
      subst hspot
      refine ⟨b, off, rfl, World.block_lt_of_cell? W _ c0, fun j t hj => ?_⟩
      have hj' : j < len := by simpa using (List.getElem?_eq_some_iff.1 hj).1
      have hl : F j = t := by simpa [hj'] using hj
      obtain ⟨a', c', c0, hi⟩ := hF j hj'
      rw [hl] at c0 hi
      rw [Addr.add_mid, Nat.mul_one] at c0
      exact ⟨a', c', c0, hi⟩
end

end Go.Proofs.Ytmigkbimdjiigaa
