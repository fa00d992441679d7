/- Several texts in one. -/
import Derived.Test.YtmigkbimdjiigaaRunA
import Derived.Test.YtmigkbimdjiigaaPlain
import Derived.Deep.LoopGhost
/- follow: the blocks that it keeps; its entry. -/
set_option linter.unusedVariables false
set_option linter.unusedSimpArgs false
namespace Go.Proofs.Ytmigkbimdjiigaa
open Go.RowKit Tinker

/-- The cells of a course: the state at the end, which lines are done, the states before them. -/
def cv (s : List Int) (d : List Bool) (b : List Int) : Array Value := (s.map (Value.int .i64) ++ (d.map Value.bool ++ b.map (Value.int .i64))).toArray
/-- The cells of what is forced. -/
def fv (d : List Bool) (b : List Int) : Array Value := (d.map Value.bool ++ b.map (Value.int .i64)).toArray

theorem cv_size {s : List Int} {d : List Bool} {b : List Int} (hs : s.length = 4) (hd : d.length = 8) (hb : b.length = 32) : (cv s d b).size = 44 := by simp [cv, hs, hd, hb]
theorem cv_get0 {s : List Int} {d : List Bool} {b : List Int} {n : Nat} (h : n < s.length) : (cv s d b)[n]? = some (.int .i64 (s.getD n 0)) := by
  simp [cv, List.getElem?_append, h, List.getD_eq_getElem?_getD]
theorem cv_get1 {s : List Int} {d : List Bool} {b : List Int} {n : Nat} (hs : s.length = 4) (h : n < d.length) : (cv s d b)[4 + n]? = some (.bool (d.getD n false)) := by
  simp [cv, List.getElem?_append, h, hs, List.getD_eq_getElem?_getD, show ¬ 4 + n < 4 by omega]
theorem cv_get2 {s : List Int} {d : List Bool} {b : List Int} {n : Nat} (hs : s.length = 4) (hd : d.length = 8) (h : n < b.length) : (cv s d b)[12 + n]? = some (.int .i64 (b.getD n 0)) := by
  simp [cv, List.getElem?_append, h, hs, hd, List.getD_eq_getElem?_getD, show ¬ 12 + n < 4 by omega, show ¬ 12 + n - 4 < 8 by omega, show 12 + n - 4 - 8 = n by omega]
theorem cv_set0 {s : List Int} {d : List Bool} {b : List Int} {n : Nat} (h : n < s.length) (x : Int) : (cv s d b).setIfInBounds n (.int .i64 x) = cv (s.set n x) d b := by
  simp only [cv, List.setIfInBounds_toArray, List.set_append, List.length_map, h, if_true, List.map_set]
theorem cv_set1 {s : List Int} {d : List Bool} {b : List Int} {n : Nat} (hs : s.length = 4) (h : n < d.length) (x : Bool) : (cv s d b).setIfInBounds (4 + n) (.bool x) = cv s (d.set n x) b := by
  simp only [cv, List.setIfInBounds_toArray, List.set_append, List.length_map, hs, show ¬ 4 + n < 4 by omega, if_false, show 4 + n - 4 = n by omega, h, if_true, List.map_set]
theorem cv_set2 {s : List Int} {d : List Bool} {b : List Int} {n : Nat} (hs : s.length = 4) (hd : d.length = 8) (x : Int) : (cv s d b).setIfInBounds (12 + n) (.int .i64 x) = cv s d (b.set n x) := by
  simp only [cv, List.setIfInBounds_toArray, List.set_append, List.length_map, hs, hd, show ¬ 12 + n < 4 by omega, if_false, show 12 + n - 4 = 8 + n by omega, show ¬ 8 + n < 8 by omega, show 8 + n - 8 = n by omega, List.map_set]
theorem cv_one (s : List Int) (d : List Bool) (b : List Int) : (cv s d b).all (·.oneCell') = true := by
  rw [Array.all_eq_true_iff_forall_mem]
  intro v hv
  simp only [cv, List.mem_toArray, List.mem_append, List.mem_map] at hv
  rcases hv with ⟨x, _, rfl⟩ | ⟨x, _, rfl⟩ | ⟨x, _, rfl⟩ <;> rfl
theorem fv_get1 {d : List Bool} {b : List Int} {n : Nat} (h : n < d.length) : (fv d b)[n]? = some (.bool (d.getD n false)) := by
  simp [fv, List.getElem?_append, h, List.getD_eq_getElem?_getD]
theorem fv_get2 {d : List Bool} {b : List Int} {n : Nat} (hd : d.length = 8) (h : n < b.length) : (fv d b)[8 + n]? = some (.int .i64 (b.getD n 0)) := by
  simp [fv, List.getElem?_append, h, hd, List.getD_eq_getElem?_getD, show ¬ 8 + n < 8 by omega]

/-- What is forced, by its two arrays. -/
def fOf (d : List Bool) (b : List Int) (i : Nat) : Option Int := if d.getD i false then some (b.getD i 0) else none

theorem list4 {s : List Int} (h : s.length = 4) : ∃ s0 s1 s2 s3, s = [s0, s1, s2, s3] := by
  match s, h with
  | [a, b, c, d], _ => exact ⟨a, b, c, d, rfl⟩

/-- What follow answers. -/
def GivesCourse (p : List L) (f : Nat → Option Int) (s : List Int) (w : World) (e : Ending) (w' : World) : Prop :=
  e = .returned (.agg (cv (tr p f 0 s).2 (doneL (tr p f 0 s).1) (befL (tr p f 0 s).1))) ∧ Below w.heap.size w w'

/-- The zero course. -/
def cv0 : Array Value := cv [0, 0, 0, 0] (List.replicate 8 false) (List.replicate 32 0)

end Go.Proofs.Ytmigkbimdjiigaa

/- follow: what the table of operations says of a line. -/
set_option linter.unusedVariables false
set_option linter.unusedSimpArgs false
namespace Go.Proofs.Ytmigkbimdjiigaa
open Go.RowKit Tinker

/-- What a number of a line, of kind k, means in a state. -/
def inK (k : Int) (s : List Int) (n : Int) : Int := if k = 1 then rg s n else n

theorem inK_1 (s : List Int) (n : Int) : inK 1 s n = rg s n := by simp [inK]
theorem inK_2 (s : List Int) (n : Int) : inK 2 s n = n := by simp [inK]
theorem inK_0 (s : List Int) (n : Int) : inK 0 s n = n := by simp [inK]

end Go.Proofs.Ytmigkbimdjiigaa
