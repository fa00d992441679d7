/- Several texts in one. -/
import Derived.Test.YtjciojoeifekeaaFollow
import Derived.Test.YtjciojoeifekeaaPlain
/- places, Run, Done, Before: contracts. -/
set_option linter.unusedVariables false
set_option linter.unusedSimpArgs false
namespace Go.Proofs.Ytjciojoeifekeaa
open Go.RowKit Tinker

/-- A slice's address leads to these bools. -/
def BoolsAt (w : World) (b off : Nat) (bs : List Bool) : Prop := ∀ j n, bs[j]? = some n → w.cell? ⟨b, off + j, none⟩ = some (.bool n)
theorem BoolsAt.below {w w' : World} {B b off : Nat} {bs : List Bool} (h : BoolsAt w b off bs) (hb : Below B w w') (hB : b < B) : BoolsAt w' b off bs :=
  fun j n hj => (hb.cell (p := ⟨b, off + j, none⟩) hB).trans (h j n hj)

theorem own_base {w : World} {base n size : Nat} {e : TypeId} {v : Value} {xs : List Value} (h : w.ownsRow base e size v n xs) : ∀ k, v.ownBlock = some k → base ≤ k := by
  intro k hk
  rcases h.2 with ⟨rfl, _⟩ | ⟨g, cap, cur, rfl, hg, _⟩
  · simp [Value.ownBlock] at hk
  · simp only [Value.ownBlock, Option.some.injEq] at hk; omega

end Go.Proofs.Ytjciojoeifekeaa

/- Run, Done, Before: contracts. -/
set_option linter.unusedVariables false
set_option linter.unusedSimpArgs false
namespace Go.Proofs.Ytjciojoeifekeaa
open Go.RowKit Tinker

/-- A new slice of numbers, and a code. -/
def GivesIntsE (zs : List Int) (c : Int) (w : World) (e : Ending) (w' : World) : Prop :=
  ∃ a cap, e = .returned (.tuple #[.slice a zs.length cap, .int .i64 c]) ∧ w'.ownsRow w.heap.size 3 1 (.slice a zs.length cap) zs.length (zs.map (Value.int .i64)) ∧ Below w.heap.size w w'
theorem givesIntsE_nil {c : Int} {w w' : World} (hB : Below w.heap.size w w') : GivesIntsE [] c w (.returned (.tuple #[.slice none 0 0, .int .i64 c])) w' := ⟨none, 0, rfl, World.ownsRow_nil _ _ _ _, hB⟩

/-- What Run answers. -/
def runL (p : List L) (s : List Int) : List Int := if vr p s = 0 then runE p s else []
/-- What Done answers. -/
def doneA (p : List L) (s : List Int) : List Int := if vr p s = 0 then plc (doneL (runS p s)) else []

theorem noF_eq : fOf (List.replicate 8 false) (List.replicate 8 0) = noF := by
  funext i
  unfold fOf noF
  have : (List.replicate 8 false).getD i false = false := by
    rw [List.getD_eq_getElem?_getD, List.getElem?_replicate]; split <;> rfl
  rw [this]; rfl
theorem fv0 : fv (List.replicate 8 false) (List.replicate 8 0) = #[.bool false, .bool false, .bool false, .bool false, .bool false, .bool false, .bool false, .bool false, .int .i64 0, .int .i64 0, .int .i64 0, .int .i64 0, .int .i64 0, .int .i64 0, .int .i64 0, .int .i64 0] := rfl

theorem runE_ok {p : List L} {s : List Int} (h : vr p s = 0) : okS (runE p s) := (tr_ok (okF_no p) _ 0 s (Nat.le_refl _) (vs_ok (vr_ok h).2)).1

theorem boolsOf {w : World} {C : Nat} {s : List Int} {d : List Bool} {b : List Int} {t : TypeId} (h : w.heap[C]? = some (.cells (cv s d b) t (0, 0))) (hs : s.length = 4) : BoolsAt w C 4 d := fun j n hj => by
  have hl : j < d.length := (List.getElem?_eq_some_iff.1 hj).1
  have := hp_cell h (cv_get1 (n := j) hs hl)
  rwa [getD_of_get hj] at this

theorem own_mono {w : World} {base base' n size : Nat} {e : TypeId} {v : Value} {xs : List Value} (h : w.ownsRow base e size v n xs) (hb : base' ≤ base) : w.ownsRow base' e size v n xs := by
  refine ⟨h.1, ?_⟩
  rcases h.2 with h | ⟨g, cap, cur, h1, h2, h3⟩
  · exact .inl h
  · exact .inr ⟨g, cap, cur, h1, Nat.le_trans hb h2, h3⟩
theorem GivesInts.wide {zs : List Int} {w w0 : World} {e : Ending} {w' : World} (h : GivesInts zs w e w') (hB : Below w0.heap.size w0 w) : GivesInts zs w0 e w' := by
  obtain ⟨a, c, he, ho, hb⟩ := h
  exact ⟨a, c, he, own_mono ho hB.size, hB.trans (hb.mono hB.size)⟩

theorem cv_state {w : World} {C : Nat} {s : List Int} {d : List Bool} {b : List Int} {t : TypeId} (h : w.heap[C]? = some (.cells (cv s d b) t (0, 0))) : ∀ j z, s[j]? = some z → w.cell? ⟨C, 0 + j, none⟩ = some (.int .i64 z) := fun j z hj => by
  have hl : j < s.length := (List.getElem?_eq_some_iff.1 hj).1
  have := hp_cell h (cv_get0 (n := j) (d := d) (b := b) hl)
  rw [getD_of_get hj] at this
  rw [Nat.zero_add]; exact this

end Go.Proofs.Ytjciojoeifekeaa
