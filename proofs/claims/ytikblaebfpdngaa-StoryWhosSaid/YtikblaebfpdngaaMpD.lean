/- Several texts in one. -/
import Derived.Test.YtikblaebfpdngaaMpB
import Derived.Test.YtikblaebfpdngaaPtY
import Derived.Test.YtikblaebfpdngaaIndB
/- Patches together: contracts of then, Then, Merge. -/
set_option linter.unusedVariables false
set_option linter.unusedSimpArgs false
namespace Go.Proofs.Ytikblaebfpdngaa
open Go.RowKit Go.Maps Tinker

/-- What the edits of both make. -/
def tnC (xs ys : List E) : Int := if 4 < cnt8 (lastX (xs ++ ys)) then 3 else 0
def tnL (xs ys : List E) : List E := if 4 < cnt8 (lastX (xs ++ ys)) then [] else mpL (lastX (xs ++ ys))
theorem eRows_two {w : World} {a g : Option Addr} {ca cg : Nat} {xs ys : List E} (hx : EditsAt w a xs) (hy : EditsAt w g ys) : RowsEAt (w.alloc (.cells #[.slice a xs.length ca, .slice g ys.length cg] 46)) (some ⟨w.heap.size, 0, none⟩) [xs, ys] := by
  have hal : Below w.heap.size w (w.alloc (.cells #[.slice a xs.length ca, .slice g ys.length cg] 46)) := (Below.refl _ _).alloc (Nat.le_refl _) _
  refine .inr ⟨w.heap.size, 0, rfl, by simp, fun j zs hj => ?_⟩
  match j, hj with
  | 0, hj => simp at hj; subst hj; exact ⟨a, ca, hp_cell (hp_new rfl) (by rfl), hx.below hal (Nat.le_refl _)⟩
  | 1, hj => simp at hj; subst hj; exact ⟨g, cg, hp_cell (hp_new rfl) (by rfl), hy.below hal (Nat.le_refl _)⟩
  | j + 2, hj => simp at hj
theorem eRows_one {w : World} {a : Option Addr} {ca : Nat} {xs : List E} (hx : EditsAt w a xs) : RowsEAt (w.alloc (.cells #[.slice a xs.length ca] 46)) (some ⟨w.heap.size, 0, none⟩) [xs] := by
  have hal : Below w.heap.size w (w.alloc (.cells #[.slice a xs.length ca] 46)) := (Below.refl _ _).alloc (Nat.le_refl _) _
  refine .inr ⟨w.heap.size, 0, rfl, by simp, fun j zs hj => ?_⟩
  match j, hj with
  | 0, hj => simp at hj; subst hj; exact ⟨a, ca, hp_cell (hp_new rfl) (by rfl), hx.below hal (Nat.le_refl _)⟩
  | j + 1, hj => simp at hj
/-- A patch that fits the map. -/
def smallX (xs : List E) : Prop := xs.length ≤ 4 ∧ ∀ e ∈ xs, 0 ≤ e.at_ ∧ e.at_ ≤ 7
theorem smallX_of {xs : List E} (h : vx xs = 0) : smallX xs := ⟨(vx_ok h).1, fun e he => ((vx_ok h).2.2 e he).1⟩

end Go.Proofs.Ytikblaebfpdngaa

/- Patches together: contracts of Then, Merge. -/
set_option linter.unusedVariables false
set_option linter.unusedSimpArgs false
namespace Go.Proofs.Ytikblaebfpdngaa
open Go.RowKit Go.Maps Tinker

/-- A line in the map that is another one than that of an edit. -/
def cfB (f : Int → Option L) (e : E) : Bool := match f e.at_ with | none => false | some l => !eqL l e.ln
/-- What Merge answers. -/
def mgC (xs ys : List E) : Int := if fe (vx xs) (vx ys) = 0 then (if ys.any (cfB (lastX xs)) then 5 else tnC xs ys) else fe (vx xs) (vx ys)
def mgR (xs ys : List E) : List E := if mgC xs ys = 0 then tnL xs ys else []
theorem any_at {f : E → Bool} {ys : List E} {k : Nat} {e : E} (he : ys[k]? = some e) (h : f e = true) : ys.any f = true := List.any_eq_true.2 ⟨e, mem_of_get he, h⟩
theorem any_no {f : E → Bool} {ys : List E} (h : (ys.all fun e => !f e) = true) : ys.any f = false := by
  rw [List.any_eq_false]
  intro e he
  have := List.all_eq_true.1 h e he
  simpa using this

end Go.Proofs.Ytikblaebfpdngaa
