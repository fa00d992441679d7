/- Plain mathematics, fifth part: slices. -/
import Derived.Test.YtmideaancmpafaaPlain4
set_option linter.unusedVariables false
set_option linter.unusedSimpArgs false
namespace Tinker

/-- m, and what is true of a below k. -/
def orTo (a m : List Bool) : Nat → List Bool
  | 0 => m
  | k + 1 => if a.getD k false then (orTo a m k).set k true else orTo a m k
theorem orTo_length (a m : List Bool) : ∀ k, (orTo a m k).length = m.length
  | 0 => rfl
  | k + 1 => by rw [orTo]; split <;> simp [orTo_length a m k]
/-- What matters before a line of the slice. -/
def matB (l : L) (m : List Bool) : List Bool := orTo (rd l) (if wr l then m.set l.to.toNat false else m) 4
theorem matB_length (l : L) (m : List Bool) : (matB l m).length = m.length := by
  unfold matB; rw [orTo_length]; split <;> simp

/-- Whether a line is in the slice. -/
def inSl (d m : List Bool) (i : Nat) (l : L) : Bool := d.getD i false && (l.op == 7 || (wr l && m.getD l.to.toNat false))
/-- One step backward: what matters, and what is in the slice. -/
def stSl (d : List Bool) (s : List Bool × List Bool) (x : Nat × L) : List Bool × List Bool :=
  (if inSl d s.1 x.1 x.2 then matB x.2 s.1 else s.1, s.2.set x.1 (inSl d s.1 x.1 x.2))
/-- The lines with their numbers, from the last one to the first one. -/
def backL (p : List L) : List (Nat × L) := ((List.range p.length).map (fun i => (i, p.getD i ⟨0, 0, 0, 0⟩))).reverse
def sl0 (r : Nat) : List Bool × List Bool := ([false, false, false, false].set r true, List.replicate 8 false)
/-- What is in the slice. -/
def sliceB (p : List L) (d : List Bool) (r : Nat) : List Bool := ((backL p).foldl (stSl d) (sl0 r)).2

theorem foldSl_length (d : List Bool) : ∀ (xs : List (Nat × L)) (s : List Bool × List Bool), (xs.foldl (stSl d) s).1.length = s.1.length ∧ (xs.foldl (stSl d) s).2.length = s.2.length
  | [], s => ⟨rfl, rfl⟩
  | x :: r, s => by
    rw [List.foldl_cons]
    have h := foldSl_length d r (stSl d s x)
    rw [h.1, h.2]
    unfold stSl
    refine ⟨?_, by simp⟩
    simp only
    split
    · rw [matB_length]
    · rfl
theorem fold_snoc {α β : Type} (f : β → α → β) (s : β) (pre : List α) (x : α) : (pre ++ [x]).foldl f s = f (pre.foldl f s) x := by simp

end Tinker
