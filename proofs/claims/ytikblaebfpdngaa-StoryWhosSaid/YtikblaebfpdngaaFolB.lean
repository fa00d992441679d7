/- Several texts in one. -/
import Derived.Test.YtikblaebfpdngaaRunA
import Derived.Test.YtikblaebfpdngaaPlain
import Derived.Deep.LoopGhost
/- follow: the blocks that it keeps; its entry. -/
set_option linter.unusedVariables false
set_option linter.unusedSimpArgs false
namespace Go.Proofs.Ytikblaebfpdngaa
open Go.RowKit Tinker

/-- The cells of a course: the state at the end, which lines are done, the states before them. -/
def cv (s : List Int) (d : List Bool) (b : List Int) : Array Value := (s.map (Value.int .i64) ++ (d.map Value.bool ++ b.map (Value.int .i64))).toArray
/-- The cells of what is forced. -/
def fv (d : List Bool) (b : List Int) : Array Value := (d.map Value.bool ++ b.map (Value.int .i64)).toArray

theorem cv_size {s : List Int} {d : List Bool} {b : List Int} (hs : s.length = 4) (hd : d.length = 8) (hb : b.length = 32) : (cv s d b).size = 44 := by simp [cv, hs, hd, hb]
theorem cv_get0 {s : List Int} {d : List Bool} {b : List Int} {n : Nat} (h : n < s.length) : (cv s d b)[n]? = some (.int .i64 (s.getD n 0)) := by
  simp [cv, List.getElem?_append, h, List.getD_eq_getElem?_getD]
theorem cv_get1 {s : List Int} {d : List Bool} {b : List Int} {n : Nat} (hs : s.length = 4) (h : n < d.length) : (cv s d b)[4 + n]? = some (.bool (d.getD n false)) := by
  simp [cv, List.getElem?_append, h, hs, List.getD_eq_getElem?_getD, show ¬ 4 + n < 4 by omega]
theorem cv_get2 {s : List Int} {d : List Bool} {b : List Int} {n : Nat} (hs : s.length = 4) (hd : d.length = 8) (h : n < b.length) : (cv s d b)[12 + n]? = some (.int .i64 (b.getD n 0)) := by
  simp [cv, List.getElem?_append, h, hs, hd, List.getD_eq_getElem?_getD, show ¬ 12 + n < 4 by omega, show ¬ 12 + n - 4 < 8 by omega, show 12 + n - 4 - 8 = n by omega]
theorem cv_set0 {s : List Int} {d : List Bool} {b : List Int} {n : Nat} (h : n < s.length) (x : Int) : (cv s d b).setIfInBounds n (.int .i64 x) = cv (s.set n x) d b := by
  simp only [cv, List.setIfInBounds_toArray, List.set_append, List.length_map, h, if_true, List.map_set]
theorem cv_set1 {s : List Int} {d : List Bool} {b : List Int} {n : Nat} (hs : s.length = 4) (h : n < d.length) (x : Bool) : (cv s d b).setIfInBounds (4 + n) (.bool x) = cv s (d.set n x) b := by
  simp only [cv, List.setIfInBounds_toArray, List.set_append, List.length_map, hs, show ¬ 4 + n < 4 by omega, if_false, show 4 + n - 4 = n by omega, h, if_true, List.map_set]
theorem cv_set2 {s : List Int} {d : List Bool} {b : List Int} {n : Nat} (hs : s.length = 4) (hd : d.length = 8) (x : Int) : (cv s d b).setIfInBounds (12 + n) (.int .i64 x) = cv s d (b.set n x) := by
  simp only [cv, List.setIfInBounds_toArray, List.set_append, List.length_map, hs, hd, show ¬ 12 + n < 4 by omega, if_false, show 12 + n - 4 = 8 + n by omega, show ¬ 8 + n < 8 by omega, show 8 + n - 8 = n by omega, List.map_set]
theorem cv_one (s : List Int) (d : List Bool) (b : List Int) : (cv s d b).all (·.oneCell') = true := by
  rw [Array.all_eq_true_iff_forall_mem]
  intro v hv
  simp only [cv, List.mem_toArray, List.mem_append, List.mem_map] at hv
  rcases hv with ⟨x, _, rfl⟩ | ⟨x, _, rfl⟩ | ⟨x, _, rfl⟩ <;> rfl
theorem fv_get1 {d : List Bool} {b : List Int} {n : Nat} (h : n < d.length) : (fv d b)[n]? = some (.bool (d.getD n false)) := by
  simp [fv, List.getElem?_append, h, List.getD_eq_getElem?_getD]
theorem fv_get2 {d : List Bool} {b : List Int} {n : Nat} (hd : d.length = 8) (h : n < b.length) : (fv d b)[8 + n]? = some (.int .i64 (b.getD n 0)) := by
  simp [fv, List.getElem?_append, h, hd, List.getD_eq_getElem?_getD, show ¬ 8 + n < 8 by omega]

/-- What is forced, by its two arrays. -/
def fOf (d : List Bool) (b : List Int) (i : Nat) : Option Int := if d.getD i false then some (b.getD i 0) else none

theorem list4 {s : List Int} (h : s.length = 4) : ∃ s0 s1 s2 s3, s = [s0, s1, s2, s3] := by
  match s, h with
  | [a, b, c, d], _ => exact ⟨a, b, c, d, rfl⟩

theorem info_op5 : (Try.prog.info? 107).map (·.size) = some 5 := by kernel_rfl
theorem info_ln4 : (Try.prog.info? 33).map (·.size) = some 4 := by kernel_rfl

/-- What follow answers. -/
def GivesCourse (p : List L) (f : Nat → Option Int) (s : List Int) (w : World) (e : Ending) (w' : World) : Prop :=
  e = .returned (.agg (cv (tr p f 0 s).2 (doneL (tr p f 0 s).1) (befL (tr p f 0 s).1))) ∧ Below w.heap.size w w'

/-- The zero course. -/
def cv0 : Array Value := cv [0, 0, 0, 0] (List.replicate 8 false) (List.replicate 32 0)

end Go.Proofs.Ytikblaebfpdngaa

/- follow: what the table of operations says of a line. -/
set_option linter.unusedVariables false
set_option linter.unusedSimpArgs false
namespace Go.Proofs.Ytikblaebfpdngaa
open Go.RowKit Tinker

/-- What a number of a line, of kind k, means in a state. -/
def inK (k : Int) (s : List Int) (n : Int) : Int := if k = 1 then rg s n else n

/-- What the table of operations says of a valid line in a state. -/
structure RowP (l : L) (s : List Int) (k0 k1 k2 : Int) (f g : Nat) : Prop where
  fcells : ∀ j v, [Value.int .i64 k0, .int .i64 k1, .int .i64 k2, .func (.func f) #[] #[], .func (.func g) #[] #[]][j]? = some v → opsT[l.op.toNat * 5 + j]? = some v
  fop : 0 ≤ l.op ∧ l.op ≤ 7
  fwr : (k0 == 1) = wr l
  fk1 : k1 = 0 ∨ k1 = 1 ∨ k1 = 2 ∨ k1 = 3
  fk2 : k2 = 0 ∨ k2 = 1 ∨ k2 = 2 ∨ k2 = 3
  ffn : f = 98 ∨ f = 100 ∨ f = 101 ∨ f = 102 ∨ f = 103
  fgn : g = 99 ∨ g = 104
  fa : k1 = 1 → 0 ≤ l.a ∧ l.a ≤ 3
  fb : k2 = 1 → 0 ≤ l.b ∧ l.b ≤ 3
  fres : wr l = true → ∃ v, cutv v = cutv (Tinker.valOf l s) ∧ ∀ W, Calls Try.prog f #[.int .i64 (inK k1 s l.a), .int .i64 (inK k2 s l.b)] W fun e w' => e = .returned (.int .i64 v) ∧ W = w'
  fskp : ∀ W, Calls Try.prog g #[.int .i64 (inK k1 s l.a), .int .i64 (inK k2 s l.b)] W fun e w' => e = .returned (.bool (skips l s)) ∧ W = w'

theorem cells5 {v0 v1 v2 v3 v4 : Value} {n : Nat} (h0 : opsT[n]? = some v0) (h1 : opsT[n + 1]? = some v1) (h2 : opsT[n + 2]? = some v2) (h3 : opsT[n + 3]? = some v3) (h4 : opsT[n + 4]? = some v4) :
    ∀ j v, [v0, v1, v2, v3, v4][j]? = some v → opsT[n + j]? = some v := fun j v hj => by
  match j, hj with
  | 0, hj => simp at hj; subst hj; exact h0
  | 1, hj => simp at hj; subst hj; exact h1
  | 2, hj => simp at hj; subst hj; exact h2
  | 3, hj => simp at hj; subst hj; exact h3
  | 4, hj => simp at hj; subst hj; exact h4
  | j + 5, hj => simp at hj

theorem inK_1 (s : List Int) (n : Int) : inK 1 s n = rg s n := by simp [inK]
theorem inK_2 (s : List Int) (n : Int) : inK 2 s n = n := by simp [inK]
theorem inK_0 (s : List Int) (n : Int) : inK 0 s n = n := by simp [inK]

theorem rowP_of {l : L} (hl : isLn l = true) {s : List Int} (hs : okS s) : ∃ k0 k1 k2 f g, RowP l s k0 k1 k2 f g := by
  have ho := isLn_op hl
  have ha := isLn_a hl
  have hb := isLn_b hl
  obtain ⟨op, td, a, b⟩ := l
  simp only at ho ha hb
  have h : op = 0 ∨ op = 1 ∨ op = 2 ∨ op = 3 ∨ op = 4 ∨ op = 5 ∨ op = 6 ∨ op = 7 := by omega
  rcases h with rfl | rfl | rfl | rfl | rfl | rfl | rfl | rfl
  · refine ⟨0, 0, 0, 98, 99, cells5 rfl rfl rfl rfl rfl, by simp, by simp [wr], by simp, by simp, by simp, by simp, ?_, ?_, ?_, ?_⟩
    · intro h; omega
    · intro h; omega
    · intro h; simp [wr] at h
    · intro W
      have e : skips ⟨0, td, a, b⟩ s = false := by simp [skips]
      rw [e]
      exact never_any _ _ W
  · refine ⟨1, 2, 0, 98, 99, cells5 rfl rfl rfl rfl rfl, by simp, by simp [wr], by simp, by simp, by simp, by simp, ?_, ?_, ?_, ?_⟩
    · intro h; omega
    · intro h; omega
    · intro _
      refine ⟨_, ?_, fun W => by simp only [inK_2, inK_0]; exact first_any _ _ W⟩
      simp [Tinker.valOf]
    · intro W
      have e : skips ⟨1, td, a, b⟩ s = false := by simp [skips]
      rw [e]
      exact never_any _ _ W
  · refine ⟨1, 1, 0, 98, 99, cells5 rfl rfl rfl rfl rfl, by simp, by simp [wr], by simp, by simp, by simp, by simp, ?_, ?_, ?_, ?_⟩
    · intro h; exact ha (by omega)
    · intro h; omega
    · intro _
      refine ⟨_, ?_, fun W => by simp only [inK_1, inK_0]; exact first_any _ _ W⟩
      simp [Tinker.valOf]
    · intro W
      have e : skips ⟨2, td, a, b⟩ s = false := by simp [skips]
      rw [e]
      exact never_any _ _ W
  · refine ⟨1, 1, 1, 100, 99, cells5 rfl rfl rfl rfl rfl, by simp, by simp [wr], by simp, by simp, by simp, by simp, ?_, ?_, ?_, ?_⟩
    · intro h; exact ha (by omega)
    · intro h; exact hb (by omega)
    · intro _
      refine ⟨_, ?_, fun W => by simp only [inK_1]; exact sum_any _ _ W (okS_rg hs _) (okS_rg hs _)⟩
      simp [Tinker.valOf]
    · intro W
      have e : skips ⟨3, td, a, b⟩ s = false := by simp [skips]
      rw [e]
      exact never_any _ _ W
  · refine ⟨1, 1, 1, 101, 99, cells5 rfl rfl rfl rfl rfl, by simp, by simp [wr], by simp, by simp, by simp, by simp, ?_, ?_, ?_, ?_⟩
    · intro h; exact ha (by omega)
    · intro h; exact hb (by omega)
    · intro _
      refine ⟨_, ?_, fun W => by simp only [inK_1]; exact difference_any _ _ W (okS_rg hs _) (okS_rg hs _)⟩
      simp [Tinker.valOf]
    · intro W
      have e : skips ⟨4, td, a, b⟩ s = false := by simp [skips]
      rw [e]
      exact never_any _ _ W
  · refine ⟨1, 1, 1, 102, 99, cells5 rfl rfl rfl rfl rfl, by simp, by simp [wr], by simp, by simp, by simp, by simp, ?_, ?_, ?_, ?_⟩
    · intro h; exact ha (by omega)
    · intro h; exact hb (by omega)
    · intro _
      refine ⟨_, ?_, fun W => by simp only [inK_1]; exact smaller_any _ _ W⟩
      simp [Tinker.valOf]
    · intro W
      have e : skips ⟨5, td, a, b⟩ s = false := by simp [skips]
      rw [e]
      exact never_any _ _ W
  · refine ⟨1, 1, 1, 103, 99, cells5 rfl rfl rfl rfl rfl, by simp, by simp [wr], by simp, by simp, by simp, by simp, ?_, ?_, ?_, ?_⟩
    · intro h; exact ha (by omega)
    · intro h; exact hb (by omega)
    · intro _
      refine ⟨_, ?_, fun W => by simp only [inK_1]; exact greater_any _ _ W⟩
      simp [Tinker.valOf]
    · intro W
      have e : skips ⟨6, td, a, b⟩ s = false := by simp [skips]
      rw [e]
      exact never_any _ _ W
  · refine ⟨3, 1, 1, 98, 104, cells5 rfl rfl rfl rfl rfl, by simp, by simp [wr], by simp, by simp, by simp, by simp, ?_, ?_, ?_, ?_⟩
    · intro h; exact ha (by omega)
    · intro h; exact hb (by omega)
    · intro h; simp [wr] at h
    · intro W
      have e : skips ⟨7, td, a, b⟩ s = decide (rg s a < rg s b) := by simp [skips]
      rw [e]
      simp only [inK_1]
      exact isBelow_any _ _ W

end Go.Proofs.Ytikblaebfpdngaa
