/- What a world keeps beside one block. -/
import Derived.Test.YtikblaebfpdngaaLns
set_option linter.unusedVariables false
set_option linter.unusedSimpArgs false
namespace Go.Proofs.Ytikblaebfpdngaa
open Go.RowKit Tinker

/-- All but one block stays. -/
structure Off (g : Nat) (w w' : World) : Prop where
  os : w'.os = w.os
  tape : w'.tape = w.tape
  output : w'.output = w.output
  size : w.heap.size ≤ w'.heap.size
  block : ∀ b, b < w.heap.size → b ≠ g → w'.heap[b]? = w.heap[b]?
theorem Off.refl (g : Nat) (w : World) : Off g w w := ⟨rfl, rfl, rfl, Nat.le_refl _, fun _ _ _ => rfl⟩
theorem Off.trans {g : Nat} {w w1 w2 : World} (h : Off g w w1) (h2 : Off g w1 w2) : Off g w w2 :=
  ⟨h2.os.trans h.os, h2.tape.trans h.tape, h2.output.trans h.output, Nat.le_trans h.size h2.size, fun b hb hne => (h2.block b (Nat.lt_of_lt_of_le hb h.size) hne).trans (h.block b hb hne)⟩
theorem Off.low {g : Nat} {w w1 : World} (h : Below w.heap.size w w1) : Off g w w1 := ⟨h.os, h.tape, h.output, h.size, fun b hb _ => h.block b hb⟩
theorem Off.setCells (g : Nat) (w : World) (o : Nat) (vs : List Value) : Off g w (w.setCells g o vs) := by
  have h : ∀ (vs : List Value) (o : Nat) (w : World), Off g w (w.setCells g o vs) := by
    intro vs
    induction vs with
    | nil => intro o w; exact Off.refl g w
    | cons v r ih =>
      intro o w
      refine Off.trans ?_ (ih (o + 1) (w.setCell ⟨g, o, none⟩ v))
      exact ⟨rfl, rfl, rfl, by simp [World.setCell], fun b hb hne => by simp [World.setCell, Array.getElem?_modify, Ne.symm hne]⟩
  exact h vs o w
theorem Off.setCell (g : Nat) (w : World) (o : Nat) (v : Value) : Off g w (w.setCell ⟨g, o, none⟩ v) := Off.setCells g w o [v]
theorem Off.setRow (g : Nat) (w : World) (cs : Array Value) : Off g w (w.setRow g cs) := ⟨rfl, rfl, rfl, by simp [World.setRow], fun b hb hne => setRow_other w g b cs hne⟩
theorem Off.below {g base : Nat} {w w' : World} (h : Off g w w') (hg : base ≤ g) (hb : base ≤ w.heap.size) : Below base w w' :=
  ⟨h.os, h.tape, h.output, h.size, fun b hlt => h.block b (by omega) (by omega)⟩
theorem Off.belowLast {base : Nat} {w w' : World} {g : Nat} (h : Off g w w') (hg : w.heap.size ≤ g) : Below w.heap.size w w' := h.below hg (Nat.le_refl _)

end Go.Proofs.Ytikblaebfpdngaa
