/- Several texts in one. -/
import Derived.Test.YtmigkbimdjiigaaSliceC
/- Slice for every register; SameInts; the law's own known. -/
set_option linter.unusedVariables false
set_option linter.unusedSimpArgs false
namespace Go.Proofs.Ytmigkbimdjiigaa
open Go.RowKit Tinker

/-- The code of Slice. -/
def slCode (p : List L) (s : List Int) (r : Int) : Int := if vr p s = 0 then (if isReg r then 0 else 1) else vr p s
/-- What Slice answers. -/
def slA (p : List L) (s : List Int) (r : Int) : List Int := if slCode p s r = 0 then plc (sliceB p (doneL (runS p s)) r.toNat) else []

/-- Whether two lists are equal. -/
def sameI (xs ys : List Int) : Bool := decide (xs = ys)
theorem sameI_len {xs ys : List Int} (h : xs.length ≠ ys.length) : sameI xs ys = false := by
  unfold sameI; rw [decide_eq_false_iff_not]; rintro rfl; exact h rfl
theorem sameI_not {xs ys : List Int} {k : Nat} {x y : Int} (hx : xs[k]? = some x) (hy : ys[k]? = some y) (h : x ≠ y) : sameI xs ys = false := by
  unfold sameI; rw [decide_eq_false_iff_not]; rintro rfl; rw [hx] at hy; cases hy; exact h rfl
theorem sameI_yes {xs ys : List Int} (hl : xs.length = ys.length) (h : xs.take xs.length = ys.take xs.length) : sameI xs ys = true := by
  unfold sameI; rw [decide_eq_true_eq]; rw [List.take_length, hl, List.take_length] at h; exact h

/-- The program of the document. -/
def exP : List L := [⟨1, 0, 3, 0⟩, ⟨3, 0, 0, 0⟩]
def exA : Array Value := #[.int .i64 1, .int .i64 0, .int .i64 3, .int .i64 0, .int .i64 3, .int .i64 0, .int .i64 0, .int .i64 0]

theorem ints_lit (w : World) (zs : List Int) (t : TypeId) : IntsAt (w.alloc (.cells (iv zs) t)) (some ⟨w.heap.size, 0, none⟩) zs :=
  .inr ⟨w.heap.size, 0, rfl, by simp, fun j n hj => by rw [Nat.zero_add]; have h := hp_cell (hp_new (w := w) (o := .cells (iv zs) t) rfl) (iv_getN zs j (List.getElem?_eq_some_iff.1 hj).1); rwa [getD_of_get hj] at h⟩

theorem exTr (s : List Int) (h : s.length = 4) (hb : ∀ n ∈ s, -999 ≤ n ∧ n ≤ 999) : vr exP s = 0 := by
  have h1 : vp exP = 0 := by decide
  have h2 := vs_ok' h hb
  unfold vr fe; rw [h1, h2]; rfl
theorem ex_run (s0 s1 s2 s3 : Int) : tr exP noF 0 [s0, s1, s2, s3] = ([(0, [s0, s1, s2, s3]), (1, [3, s1, s2, s3])], [6, s1, s2, s3]) := by
  rw [tr_lt (l := ⟨1, 0, 3, 0⟩) rfl]
  have e1 : nxt ⟨1, 0, 3, 0⟩ [s0, s1, s2, s3] 0 = 1 := rfl
  have e2 : stp ⟨1, 0, 3, 0⟩ [s0, s1, s2, s3] (noF 0) = [3, s1, s2, s3] := rfl
  rw [e1, e2, tr_lt (l := ⟨3, 0, 0, 0⟩) rfl]
  have e3 : nxt ⟨3, 0, 0, 0⟩ [3, s1, s2, s3] 1 = 2 := rfl
  have e4 : stp ⟨3, 0, 0, 0⟩ [3, s1, s2, s3] (noF 1) = [6, s1, s2, s3] := rfl
  rw [e3, e4, tr_ge (by decide)]
theorem ex_1 : runL exP [7, 7, 7, 7] = [6, 7, 7, 7] := by
  unfold runL runE; rw [if_pos (exTr _ rfl (by decide)), ex_run]
theorem ex_2 : slA exP [0, 0, 0, 0] 0 = [0, 1] := by
  have h : slCode exP [0, 0, 0, 0] 0 = 0 := by unfold slCode; rw [if_pos (exTr _ rfl (by decide))]; decide
  unfold slA runS; rw [if_pos h, ex_run]; decide
theorem ex_3 : vr exP [7, 7, 7, 7] = 0 := exTr _ rfl (by decide)
theorem ex_4 : slCode exP [0, 0, 0, 0] 0 = 0 := by unfold slCode; rw [if_pos (exTr _ rfl (by decide))]; decide

end Go.Proofs.Ytmigkbimdjiigaa

/- The law's own known. -/
set_option linter.unusedVariables false
set_option linter.unusedSimpArgs false
namespace Go.Proofs.Ytmigkbimdjiigaa
open Go.RowKit Tinker

theorem ints_lit' {w : World} {zs : List Int} {t : TypeId} {n : Nat} (h : w.heap.size = n) : IntsAt (w.alloc (.cells (iv zs) t)) (some ⟨n, 0, none⟩) zs := by subst h; exact ints_lit w zs t
/-- The same, the lengths written out. -/
def GivesLit (n : Nat) (zs : List Int) (w : World) (e : Ending) (w' : World) : Prop := ∃ a c, e = .returned (.tuple #[.slice a n c, .int .i64 0]) ∧ IntsAt w' a zs ∧ Below w.heap.size w w'
theorem givesLit_of {n : Nat} {zs : List Int} {w : World} {e : Ending} {w' : World} (h : GivesIntsE zs 0 w e w') (hn : zs.length = n) : GivesLit n zs w e w' := by
  obtain ⟨a, c, he, ho, hb⟩ := h
  subst hn
  exact ⟨a, c, he, (ints_of_own ho).1, hb⟩

end Go.Proofs.Ytmigkbimdjiigaa
