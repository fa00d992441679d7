/- Several texts in one. -/
import Derived.Test.YtikblaebfpdngaaRunA
import Derived.ProofKit
import Derived.OpenShut
import Derived.ShutString
import Derived.ChangeOld
import Derived.Lib.SmallJoins
import Derived.Deep.Slices
import Derived.Test.YtikblaebfpdngaaChkA
import Derived.Deep.Strs
import Derived.Test.YtikblaebfpdngaaEdM
/- Arguments that are lists of numbers and of lines: opened. -/
set_option linter.unusedVariables false
set_option linter.unusedSimpArgs false
namespace Go.Proofs.Ytikblaebfpdngaa
open Go.ChangeShapes Go.WideShapes Go.ChangeAt Go.RowKit Go.Joins Go.Deep Tinker

theorem o_int : Try.prog.cellsOf 3 = 1 := by kernel_rfl
theorem o_line : Try.prog.cellsOf 33 = 4 := by kernel_rfl

section
variable {H : Type} {enc : TypeId × Value → H} {W : World} {d : DataW H} {p : List MemPlace} {r : Reach} {base : Nat} {v : Value}

set_option maxRecDepth 100000 in
theorem open_intsV (hv : Value.okWide Try.prog W r base 35 v) (h : DataW.Trod enc Try.prog W 0 (fun _ => true) true 35 v d p) :
    ∃ a cap, ∃ zs : List Int, v = .slice a zs.length cap ∧ IntsAt W a zs ∧ (a = none → cap = 0) := by
  obtain ⟨fuel, hf⟩ := h
  obtain ⟨a0, len, cap, rfl⟩ := okWide_slice Try.underlying35 hv
  rcases open_ints Try.underlying35 Try.underlying3 o_int hf with ⟨hcs, hx⟩ | ⟨a, len', cap', zs, hcs, _, hl, hm, hz, hx, hcell, hwz⟩
  · simp [Value.cells] at hcs
    obtain ⟨rfl, rfl, rfl⟩ := hcs
    exact ⟨none, 0, [], rfl, .inl rfl, fun _ => rfl⟩
  · simp [Value.cells] at hcs
    obtain ⟨rfl, rfl, rfl⟩ := hcs
    simp only [if_true] at hz
    have hlen : (zs.take len).length = len := by rw [List.length_take]; omega
    refine ⟨some a, cap, zs.take len, by rw [hlen], ?_, fun h => by cases h⟩
    rcases Nat.eq_zero_or_pos len with h0 | h0
    · left; subst h0; simp
    · right
      obtain ⟨b, off, spot⟩ := a
      have c0 := hcell 0 (by omega)
      have hspot : spot = none := by simpa [Addr.add] using World.cell?_spot c0
      subst hspot
      refine ⟨b, off, rfl, World.block_lt_of_cell? W _ c0, fun j n hj => ?_⟩
      have hj' : j < len := by have := (List.getElem?_eq_some_iff.1 hj).1; omega
      have c := hcell j (by omega)
      rw [List.getElem?_take_of_lt hj'] at hj
      rw [getD_of_get hj] at c
      rw [Addr.add_mid] at c
      exact c

set_option maxRecDepth 100000 in
theorem open_linesV (hv : Value.okWide Try.prog W r base 22 v) (h : DataW.Trod enc Try.prog W 0 (fun _ => true) true 22 v d p) :
    ∃ a cap, ∃ ps : List L, v = .slice a ps.length cap ∧ LinesAt W a ps ∧ (a = none → cap = 0) := by
  obtain ⟨fuel, hf⟩ := h
  obtain ⟨a0, len, cap, rfl⟩ := okWide_slice Try.underlying22 hv
  rcases open_slice Try.underlying22 hf with ⟨hcs, hx⟩ | ⟨a, len', cap', m, n, D, Pl, hcs, _, hl, hm, hmm, hx, hall⟩
  · simp [Value.cells] at hcs
    obtain ⟨rfl, rfl, rfl⟩ := hcs
    exact ⟨none, 0, [], rfl, .inl rfl, fun _ => rfl⟩
  · simp [Value.cells] at hcs
    obtain ⟨rfl, rfl, rfl⟩ := hcs
    have each : ∀ i, i < len → ∃ l : L, W.cell? (a.add (i * 4)) = some (.int .i64 l.op) ∧ W.cell? (a.add (i * 4 + 1)) = some (.int .i64 l.to) ∧ W.cell? (a.add (i * 4 + 2)) = some (.int .i64 l.a) ∧ W.cell? (a.add (i * 4 + 3)) = some (.int .i64 l.b) := by
      intro i hi
      obtain ⟨cs', h1, h2⟩ := hall i (by rw [hmm]; simp; omega)
      rw [o_line] at h1
      obtain ⟨_, hlen, hcell⟩ := World.cells?_some h1
      obtain ⟨y0, y1, y2, y3, n', hx, _, g0, g1, g2, g3⟩ := trod_struct4 Try.underlying33 h2
      match cs', hlen with
      | [v0, v1, v2, v3], _ =>
        simp [o_int] at g0 g1 g2 g3
        obtain ⟨n0, e0, _, _⟩ := DataW.trod_int Try.underlying3 g0
        obtain ⟨n1, e1, _, _⟩ := DataW.trod_int Try.underlying3 g1
        obtain ⟨n2, e2, _, _⟩ := DataW.trod_int Try.underlying3 g2
        obtain ⟨n3, e3, _, _⟩ := DataW.trod_int Try.underlying3 g3
        simp at e0 e1 e2 e3
        subst e0 e1 e2 e3
        have c0 := hcell 0 (by omega)
        have c1 := hcell 1 (by omega)
        have c2 := hcell 2 (by omega)
        have c3 := hcell 3 (by omega)
        rw [add_add] at c0 c1 c2 c3
        exact ⟨⟨n0, n1, n2, n3⟩, by simpa using c0, by simpa using c1, by simpa using c2, by simpa using c3⟩
    have each' : ∀ i, ∃ l : L, i < len → W.cell? (a.add (i * 4)) = some (.int .i64 l.op) ∧ W.cell? (a.add (i * 4 + 1)) = some (.int .i64 l.to) ∧ W.cell? (a.add (i * 4 + 2)) = some (.int .i64 l.a) ∧ W.cell? (a.add (i * 4 + 3)) = some (.int .i64 l.b) := fun i => by
      by_cases hi : i < len
      · obtain ⟨l, h⟩ := each i hi; exact ⟨l, fun _ => h⟩
      · exact ⟨⟨0, 0, 0, 0⟩, fun h => absurd h hi⟩
    obtain ⟨F, hF⟩ := Classical.axiomOfChoice each'
    refine ⟨some a, cap, (List.range len).map F, by simp, ?_, fun h => by cases h⟩
    rcases Nat.eq_zero_or_pos len with h0 | h0
    · left; subst h0; simp
    · right
      obtain ⟨b, off, spot⟩ := a
      obtain ⟨c0, _, _, _⟩ := hF 0 h0
      have hspot : spot = none := by simpa [Addr.add] using World.cell?_spot c0
      subst hspot
      refine ⟨b, off, rfl, World.block_lt_of_cell? W _ c0, fun j l hj => ?_⟩
      have hj' : j < len := by simpa using (List.getElem?_eq_some_iff.1 hj).1
      have hl : F j = l := by simpa [hj'] using hj
      obtain ⟨c0, c1, c2, c3⟩ := hF j hj'
      rw [hl, Addr.add_mid] at c0 c1 c2 c3
      exact ⟨c0, c1, c2, c3⟩

set_option maxRecDepth 100000 in
theorem open_lineV (hv : Value.okWide Try.prog W r base 33 v) (h : DataW.Trod enc Try.prog W 0 (fun _ => true) true 33 v d p) : ∃ l : L, v = lv l := by
  obtain ⟨c0, c1, c2, c3, y0, y1, y2, y3, m, rfl, _, _, hy0, hy1, hy2, hy3⟩ := open_agg4 Try.underlying33 (by kernel_rfl) o_line hv h
  obtain ⟨n0, e0, _, _⟩ := DataW.trod_int Try.underlying3 hy0
  obtain ⟨n1, e1, _, _⟩ := DataW.trod_int Try.underlying3 hy1
  obtain ⟨n2, e2, _, _⟩ := DataW.trod_int Try.underlying3 hy2
  obtain ⟨n3, e3, _, _⟩ := DataW.trod_int Try.underlying3 hy3
  simp at e0 e1 e2 e3
  subst e0 e1 e2 e3
  exact ⟨⟨n0, n1, n2, n3⟩, rfl⟩
end

end Go.Proofs.Ytikblaebfpdngaa

/- Arguments that are structs with lists of numbers: opened. -/
set_option linter.unusedVariables false
set_option linter.unusedSimpArgs false
namespace Go.Proofs.Ytikblaebfpdngaa
open Go.ChangeShapes Go.WideShapes Go.ChangeAt Go.RowKit Go.Joins Go.Deep Tinker

section
variable {H : Type} {enc : TypeId × Value → H} {W : World} {d : DataW H} {p : List MemPlace} {r : Reach} {base : Nat} {v : Value}

set_option maxRecDepth 100000 in
theorem open_ints1 {fuel : Nat} {x : DataW H × List MemPlace} (hf : DataW.trod enc Try.prog W 0 (fun _ => true) true fuel 35 [v] = some x) :
    ∃ a cap, ∃ zs : List Int, v = .slice a zs.length cap ∧ IntsAt W a zs ∧ (a = none → cap = 0) := by
  rcases open_ints Try.underlying35 Try.underlying3 o_int hf with ⟨hcs, hx⟩ | ⟨a, len', cap', zs, hcs, _, hl, hm, hz, hx, hcell, hwz⟩
  · simp only [List.cons.injEq, and_true] at hcs
    subst hcs
    exact ⟨none, 0, [], rfl, .inl rfl, fun _ => rfl⟩
  · simp only [List.cons.injEq, and_true] at hcs
    subst hcs
    simp only [if_true] at hz
    have hlen : (zs.take len').length = len' := by rw [List.length_take]; omega
    refine ⟨some a, cap', zs.take len', by rw [hlen], ?_, fun h => by cases h⟩
    rcases Nat.eq_zero_or_pos len' with h0 | h0
    · left; subst h0; simp
    · right
      obtain ⟨b, off, spot⟩ := a
      have c0 := hcell 0 (by omega)
      have hspot : spot = none := by simpa [Addr.add] using World.cell?_spot c0
      subst hspot
      refine ⟨b, off, rfl, World.block_lt_of_cell? W _ c0, fun j n hj => ?_⟩
      have hj' : j < len' := by have := (List.getElem?_eq_some_iff.1 hj).1; omega
      have c := hcell j (by omega)
      rw [List.getElem?_take_of_lt hj'] at hj
      rw [getD_of_get hj] at c
      rw [Addr.add_mid] at c
      exact c

set_option maxRecDepth 100000 in
theorem open_lines_cap {a : Option Addr} {n cap : Nat} (h : DataW.Trod enc Try.prog W 0 (fun _ => true) true 22 (.slice a n cap) d p) : n ≤ cap := by
  obtain ⟨fuel, hf⟩ := h
  rcases open_slice Try.underlying22 hf with ⟨hcs, hx⟩ | ⟨a, len', cap', m, k, D, Pl, hcs, _, hl, hm, hmm, hx, hall⟩
  · simp [Value.cells] at hcs
    omega
  · simp [Value.cells] at hcs
    omega

end

end Go.Proofs.Ytikblaebfpdngaa

/- Tests as arguments: opened. -/
set_option linter.unusedVariables false
set_option linter.unusedSimpArgs false
namespace Go.Proofs.Ytikblaebfpdngaa
open Go.ChangeShapes Go.WideShapes Go.ChangeAt Go.RowKit Go.Joins Go.Deep Tinker

theorem o_test : Try.prog.cellsOf 119 = 3 := by kernel_rfl
theorem o_intsl : Try.prog.cellsOf 35 = 1 := by kernel_rfl

section
variable {H : Type} {enc : TypeId × Value → H} {W : World} {d : DataW H} {p : List MemPlace} {r : Reach} {base : Nat} {v : Value}

set_option maxRecDepth 100000 in
theorem open_testV (hv : Value.okWide Try.prog W r base 119 v) (h : DataW.Trod enc Try.prog W 0 (fun _ => true) true 119 v d p) :
    ∃ a c, ∃ t : T, v = .agg #[.slice a t.inn.length c, .int .i64 t.out, .int .i64 t.want] ∧ IntsAt W a t.inn ∧ (a = none → c = 0) := by
  obtain ⟨v0, v1, v2, y0, y1, y2, n, rfl, _, _, h0, h1, h2⟩ := open_agg3 Try.underlying119 (by kernel_rfl) o_test hv h
  obtain ⟨a, c, z, rfl, i, e⟩ := open_ints1 h0
  obtain ⟨m1, e1, _, _⟩ := DataW.trod_int Try.underlying3 h1
  obtain ⟨m2, e2, _, _⟩ := DataW.trod_int Try.underlying3 h2
  simp only [List.cons.injEq, and_true] at e1 e2
  subst e1 e2
  exact ⟨a, c, ⟨z, m1, m2⟩, rfl, i, e⟩

set_option maxRecDepth 100000 in
theorem open_testsV (hv : Value.okWide Try.prog W r base 116 v) (h : DataW.Trod enc Try.prog W 0 (fun _ => true) true 116 v d p) :
    ∃ a cap, ∃ ts : List T, v = .slice a ts.length cap ∧ TestsAt W a ts ∧ (a = none → cap = 0) := by
  obtain ⟨fuel, hf⟩ := h
  obtain ⟨a0, len, cap, rfl⟩ := okWide_slice Try.underlying116 hv
  rcases open_slice Try.underlying116 hf with ⟨hcs, hx⟩ | ⟨a, len', cap', m, n, D, Pl, hcs, _, hl, hm, hmm, hx, hall⟩
  · simp [Value.cells] at hcs
    obtain ⟨rfl, rfl, rfl⟩ := hcs
    exact ⟨none, 0, [], rfl, .inl rfl, fun _ => rfl⟩
  · simp [Value.cells] at hcs
    obtain ⟨rfl, rfl, rfl⟩ := hcs
    have each : ∀ i, i < len → ∃ t : T, ∃ a' c', W.cell? (a.add (i * 3)) = some (.slice a' t.inn.length c') ∧ W.cell? (a.add (i * 3 + 1)) = some (.int .i64 t.out) ∧ W.cell? (a.add (i * 3 + 2)) = some (.int .i64 t.want) ∧ IntsAt W a' t.inn := by
      intro i hi
      obtain ⟨cs', h1, h2⟩ := hall i (by rw [hmm]; simp; omega)
      rw [o_test] at h1
      obtain ⟨_, hlen, hcell⟩ := World.cells?_some h1
      obtain ⟨y0, y1, y2, n', hx, _, g0, g1, g2⟩ := trod_struct3 Try.underlying119 h2
      match cs', hlen with
      | [v0, v1, v2], _ =>
        simp [o_int, o_intsl] at g0 g1 g2
        obtain ⟨a', c', z, e0, hi', _⟩ := open_ints1 g0
        obtain ⟨n1, e1, _, _⟩ := DataW.trod_int Try.underlying3 g1
        obtain ⟨n2, e2, _, _⟩ := DataW.trod_int Try.underlying3 g2
        simp at e1 e2
        subst e0 e1 e2
        have c0 := hcell 0 (by omega)
        have c1 := hcell 1 (by omega)
        have c2 := hcell 2 (by omega)
        rw [add_add] at c0 c1 c2
        exact ⟨⟨z, n1, n2⟩, a', c', by simpa using c0, by simpa using c1, by simpa using c2, hi'⟩
    have each' : ∀ i, ∃ t : T, i < len → ∃ a' c', W.cell? (a.add (i * 3)) = some (.slice a' t.inn.length c') ∧ W.cell? (a.add (i * 3 + 1)) = some (.int .i64 t.out) ∧ W.cell? (a.add (i * 3 + 2)) = some (.int .i64 t.want) ∧ IntsAt W a' t.inn := fun i => by
      by_cases hi : i < len
      · obtain ⟨t, h⟩ := each i hi; exact ⟨t, fun _ => h⟩
      · exact ⟨⟨[], 0, 0⟩, fun h => absurd h hi⟩
    obtain ⟨F, hF⟩ := Classical.axiomOfChoice each'
    refine ⟨some a, cap, (List.range len).map F, by simp, ?_, fun h => by cases h⟩
    rcases Nat.eq_zero_or_pos len with h0 | h0
    · left; subst h0; simp
    · right
      obtain ⟨b, off, spot⟩ := a
      obtain ⟨_, _, c0, _, _, _⟩ := hF 0 h0
      have hspot : spot = none := by simpa [Addr.add] using World.cell?_spot c0
      subst hspot
      refine ⟨b, off, rfl, World.block_lt_of_cell? W _ c0, fun j t hj => ?_⟩
      have hj' : j < len := by simpa using (List.getElem?_eq_some_iff.1 hj).1
      have hl : F j = t := by simpa [hj'] using hj
      obtain ⟨a', c', c0, c1, c2, hi⟩ := hF j hj'
      rw [hl] at c0 c1 c2 hi
      rw [Addr.add_mid] at c0 c1 c2
      exact ⟨a', c', c0, c1, c2, hi⟩
end

end Go.Proofs.Ytikblaebfpdngaa

/- Patches as arguments: opened. -/
set_option linter.unusedVariables false
set_option linter.unusedSimpArgs false
namespace Go.Proofs.Ytikblaebfpdngaa
open Go.ChangeShapes Go.WideShapes Go.ChangeAt Go.RowKit Go.Joins Go.Deep Tinker

theorem o_edit : Try.prog.cellsOf 50 = 5 := by kernel_rfl

section
variable {H : Type} {enc : TypeId × Value → H} {W : World} {d : DataW H} {p : List MemPlace} {r : Reach} {base : Nat} {v : Value}

/-- The cells of an edit. -/
def EC (W : World) (a : Addr) (i : Nat) (e : E) : Prop := W.cell? (a.add (i * 5)) = some (.int .i64 e.at_) ∧ W.cell? (a.add (i * 5 + 1)) = some (.int .i64 e.ln.op) ∧ W.cell? (a.add (i * 5 + 2)) = some (.int .i64 e.ln.to) ∧ W.cell? (a.add (i * 5 + 3)) = some (.int .i64 e.ln.a) ∧ W.cell? (a.add (i * 5 + 4)) = some (.int .i64 e.ln.b)

set_option maxRecDepth 100000 in
theorem open_editsV (hv : Value.okWide Try.prog W r base 46 v) (h : DataW.Trod enc Try.prog W 0 (fun _ => true) true 46 v d p) :
    ∃ a cap, ∃ xs : List E, v = .slice a xs.length cap ∧ EditsAt W a xs ∧ (a = none → cap = 0) := by
  obtain ⟨fuel, hf⟩ := h
  obtain ⟨a0, len, cap, rfl⟩ := okWide_slice Try.underlying46 hv
  rcases open_slice Try.underlying46 hf with ⟨hcs, hx⟩ | ⟨a, len', cap', m, n, D, Pl, hcs, _, hl, hm, hmm, hx, hall⟩
  · simp [Value.cells] at hcs
    obtain ⟨rfl, rfl, rfl⟩ := hcs
    exact ⟨none, 0, [], rfl, .inl rfl, fun _ => rfl⟩
  · simp [Value.cells] at hcs
    obtain ⟨rfl, rfl, rfl⟩ := hcs
    have each : ∀ i, i < len → ∃ e : E, EC W a i e := by
      intro i hi
      obtain ⟨cs', h1, h2⟩ := hall i (by rw [hmm]; simp; omega)
      rw [o_edit] at h1
      obtain ⟨_, hlen, hcell⟩ := World.cells?_some h1
      obtain ⟨z0, z1, n1, hx1, _, f0, f1⟩ := trod_struct2 Try.underlying50 h2
      match cs', hlen with
      | [v0, v1, v2, v3, v4], _ =>
        simp [o_int, o_line] at f0 f1
        obtain ⟨y0, y1, y2, y3, n', hx', _, g0, g1, g2, g3⟩ := trod_struct4 Try.underlying33 f1
        simp [o_int] at g0 g1 g2 g3
        obtain ⟨na, ea, _, _⟩ := DataW.trod_int Try.underlying3 f0
        obtain ⟨n0, e0, _, _⟩ := DataW.trod_int Try.underlying3 g0
        obtain ⟨n1, e1, _, _⟩ := DataW.trod_int Try.underlying3 g1
        obtain ⟨n2, e2, _, _⟩ := DataW.trod_int Try.underlying3 g2
        obtain ⟨n3, e3, _, _⟩ := DataW.trod_int Try.underlying3 g3
        simp at ea e0 e1 e2 e3
        subst ea e0 e1 e2 e3
        have c0 := hcell 0 (by omega)
        have c1 := hcell 1 (by omega)
        have c2 := hcell 2 (by omega)
        have c3 := hcell 3 (by omega)
        have c4 := hcell 4 (by omega)
        rw [add_add] at c0 c1 c2 c3 c4
        exact ⟨⟨na, ⟨n0, n1, n2, n3⟩⟩, by simpa using c0, by simpa using c1, by simpa using c2, by simpa using c3, by simpa using c4⟩
    have each' : ∀ i, ∃ e : E, i < len → EC W a i e := fun i => by
      by_cases hi : i < len
      · obtain ⟨l, h⟩ := each i hi; exact ⟨l, fun _ => h⟩
      · exact ⟨⟨0, ⟨0, 0, 0, 0⟩⟩, fun h => absurd h hi⟩
    obtain ⟨F, hF⟩ := Classical.axiomOfChoice each'
    refine ⟨some a, cap, (List.range len).map F, by simp, ?_, fun h => by cases h⟩
    rcases Nat.eq_zero_or_pos len with h0 | h0
    · left; subst h0; simp
    · right
      obtain ⟨b, off, spot⟩ := a
      obtain ⟨c0, _, _, _, _⟩ := hF 0 h0
      have hspot : spot = none := by simpa [Addr.add] using World.cell?_spot c0
      subst hspot
      refine ⟨b, off, rfl, World.block_lt_of_cell? W _ c0, fun j l hj => ?_⟩
      have hj' : j < len := by simpa using (List.getElem?_eq_some_iff.1 hj).1
      have hl : F j = l := by simpa [hj'] using hj
      obtain ⟨c0, c1, c2, c3, c4⟩ := hF j hj'
      rw [hl, Addr.add_mid] at c0 c1 c2 c3 c4
      exact ⟨c0, c1, c2, c3, c4⟩
end

end Go.Proofs.Ytikblaebfpdngaa
