/- Plain mathematics, sixth part: what is done in ascending order, the states before, what is forced, slices by steps. -/
import Derived.Test.YtmideaancmpafaaPlain5
set_option linter.unusedVariables false
set_option linter.unusedSimpArgs false
namespace Tinker

/-- Strictly ascending lines. -/
def asc (st : List (Nat × List Int)) : Prop := st.Pairwise (fun x y => x.1 < y.1)

theorem tr_asc (p : List L) (f : Nat → Option Int) : ∀ (n i : Nat) (s : List Int), p.length - i ≤ n → asc (tr p f i s).1
  | 0, i, s, h => by rw [tr_ge (by omega)]; exact List.Pairwise.nil
  | n + 1, i, s, h => by
    rcases Nat.lt_or_ge i p.length with hi | hi
    · obtain ⟨l, hl⟩ := get_of_lt hi
      have hg := nxt_gt l s i
      rw [tr_lt hl]
      refine List.pairwise_cons.2 ⟨fun x hx => ?_, tr_asc p f n _ _ (by omega)⟩
      have := tr_from p f _ _ _ (Nat.le_refl _) x hx
      show i < x.1
      omega
    · rw [tr_ge hi]; exact List.Pairwise.nil

theorem asc_eq : ∀ {a b : List Nat}, a.Pairwise (· < ·) → b.Pairwise (· < ·) → (∀ x, x ∈ a ↔ x ∈ b) → a = b
  | [], [], _, _, _ => rfl
  | [], y :: b, _, _, h => absurd ((h y).2 (by simp)) (by simp)
  | x :: a, [], _, _, h => absurd ((h x).1 (by simp)) (by simp)
  | x :: a, y :: b, ha, hb, h => by
    rw [List.pairwise_cons] at ha hb
    have hxy : x = y := by
      rcases List.mem_cons.1 ((h x).1 (by simp)) with e | e
      · exact e
      · rcases List.mem_cons.1 ((h y).2 (by simp)) with e' | e'
        · exact e'.symm
        · have h1 := hb.1 x e
          have h2 := ha.1 y e'
          omega
    subst hxy
    congr 1
    refine asc_eq ha.2 hb.2 fun z => ⟨fun hz => ?_, fun hz => ?_⟩
    · rcases List.mem_cons.1 ((h z).1 (List.mem_cons_of_mem _ hz)) with e | e
      · subst e; exact absurd (ha.1 _ hz) (by omega)
      · exact e
    · rcases List.mem_cons.1 ((h z).2 (List.mem_cons_of_mem _ hz)) with e | e
      · subst e; exact absurd (hb.1 _ hz) (by omega)
      · exact e

theorem getD_set {α : Type} (l : List α) (i j : Nat) (x d : α) (hi : i < l.length) : (l.set i x).getD j d = if i = j then x else l.getD j d := by
  rw [List.getD_eq_getElem?_getD, List.getElem?_set, List.getD_eq_getElem?_getD]
  split
  · simp [hi]
  · rfl
theorem getD_set_ne {α : Type} (l : List α) {i j : Nat} (x d : α) (h : i ≠ j) : (l.set i x).getD j d = l.getD j d := by
  rw [List.getD_eq_getElem?_getD, List.getElem?_set_ne h, List.getD_eq_getElem?_getD]

theorem foldl_done : ∀ (st : List (Nat × List Int)) (d : List Bool) (i : Nat), i < d.length → (st.foldl (fun d x => d.set x.1 true) d).getD i false = (d.getD i false || st.any (·.1 == i))
  | [], d, i, hi => by simp
  | x :: r, d, i, hi => by
    rw [List.foldl_cons, foldl_done r _ i (by simpa using hi), List.any_cons]
    by_cases h : x.1 = i
    · rw [h, getD_set _ _ _ _ _ hi]; simp
    · have e : (x.1 == i) = false := by simpa using h
      rw [getD_set_ne _ _ _ h, e, Bool.false_or]
theorem rep_get {α : Type} (n i : Nat) (x : α) : (List.replicate n x).getD i x = x := by
  rw [List.getD_eq_getElem?_getD, List.getElem?_replicate]; split <;> rfl
theorem doneL_get (st : List (Nat × List Int)) {i : Nat} (hi : i < 8) : (doneL st).getD i false = st.any (·.1 == i) := by
  unfold doneL
  rw [foldl_done _ _ _ (by simpa using hi), rep_get]
  simp

/-- The lines of steps. -/
def linesOf (st : List (Nat × List Int)) : List Int := st.map (fun x => (x.1 : Int))
theorem plc_done {st : List (Nat × List Int)} (ha : asc st) (h8 : ∀ x ∈ st, x.1 < 8) : plc (doneL st) = linesOf st := by
  unfold plc plcTo linesOf
  rw [doneL_length]
  have e : (List.range 8).filter (fun i => (doneL st).getD i false) = st.map (·.1) := by
    refine asc_eq ?_ ?_ fun x => ?_
    · exact List.Pairwise.filter _ List.pairwise_lt_range
    · exact List.pairwise_map.2 ha
    · rw [List.mem_filter, List.mem_range, List.mem_map]
      constructor
      · rintro ⟨h1, h2⟩
        rw [doneL_get st h1, List.any_eq_true] at h2
        obtain ⟨y, hy, h⟩ := h2
        exact ⟨y, hy, by simpa using h⟩
      · rintro ⟨y, hy, rfl⟩
        exact ⟨h8 y hy, by rw [doneL_get st (h8 y hy), List.any_eq_true]; exact ⟨y, hy, by simp⟩⟩
  rw [e, List.map_map]; rfl

/-- The state before a line, if it is done. -/
def befAt (st : List (Nat × List Int)) (i : Nat) : Option (List Int) := (st.find? (·.1 == i)).map (·.2)
theorem befAt_done (st : List (Nat × List Int)) {i : Nat} (hi : i < 8) : (doneL st).getD i false = (befAt st i).isSome := by
  rw [doneL_get st hi, Bool.eq_iff_iff]; unfold befAt; rw [Option.isSome_map, List.any_eq_true, List.find?_isSome]
theorem befAt_mem {st : List (Nat × List Int)} {i : Nat} {s : List Int} (h : befAt st i = some s) : (i, s) ∈ st := by
  unfold befAt at h
  rw [Option.map_eq_some_iff] at h
  obtain ⟨x, hx, rfl⟩ := h
  have h1 := List.find?_some hx
  have h2 := List.mem_of_find?_eq_some hx
  simp only [beq_iff_eq] at h1
  subst h1
  exact h2

theorem put4_self {d : List Int} {i : Nat} {s : List Int} (h : i * 4 + 4 ≤ d.length) : ∀ j, j < 4 → (put4 d i s).getD (i * 4 + j) 0 = s.getD j 0 := by
  intro j hj
  unfold put4
  have c : j = 0 ∨ j = 1 ∨ j = 2 ∨ j = 3 := by omega
  rcases c with rfl | rfl | rfl | rfl
  · rw [getD_set_ne _ _ _ (by omega), getD_set_ne _ _ _ (by omega), getD_set_ne _ _ _ (by omega), getD_set _ _ _ _ _ (by omega), if_pos (by omega)]
  · rw [getD_set_ne _ _ _ (by omega), getD_set_ne _ _ _ (by omega), getD_set _ _ _ _ _ (by simp; omega), if_pos (by omega)]
  · rw [getD_set_ne _ _ _ (by omega), getD_set _ _ _ _ _ (by simp; omega), if_pos (by omega)]
  · rw [getD_set _ _ _ _ _ (by simp; omega), if_pos (by omega)]
theorem put4_other {d : List Int} {i k : Nat} {s : List Int} (h : i ≠ k) : ∀ j, j < 4 → (put4 d i s).getD (k * 4 + j) 0 = d.getD (k * 4 + j) 0 := by
  intro j hj
  unfold put4
  rw [getD_set_ne _ _ _ (by omega), getD_set_ne _ _ _ (by omega), getD_set_ne _ _ _ (by omega), getD_set_ne _ _ _ (by omega)]
theorem foldl_put_other : ∀ (st : List (Nat × List Int)) (d : List Int) (k : Nat), (∀ x ∈ st, x.1 ≠ k) → ∀ j, j < 4 → (st.foldl (fun d x => put4 d x.1 x.2) d).getD (k * 4 + j) 0 = d.getD (k * 4 + j) 0
  | [], d, k, h, j, hj => rfl
  | x :: r, d, k, h, j, hj => by
    rw [List.foldl_cons, foldl_put_other r _ k (fun y hy => h y (List.mem_cons_of_mem _ hy)) j hj]
    exact put4_other (h x (by simp)) j hj
theorem foldl_put_mem : ∀ (st : List (Nat × List Int)) (d : List Int) (x : Nat × List Int), asc st → x ∈ st → x.1 * 4 + 4 ≤ d.length → ∀ j, j < 4 → (st.foldl (fun d x => put4 d x.1 x.2) d).getD (x.1 * 4 + j) 0 = x.2.getD j 0
  | [], d, x, ha, hx, h, j, hj => by simp at hx
  | y :: r, d, x, ha, hx, h, j, hj => by
    have ha' := List.pairwise_cons.1 ha
    rw [List.foldl_cons]
    rcases List.mem_cons.1 hx with rfl | hx
    · rw [foldl_put_other r _ x.1 (fun z hz => by have := ha'.1 z hz; omega) j hj]
      exact put4_self h j hj
    · exact foldl_put_mem r _ x ha'.2 hx (by rw [put4_length]; exact h) j hj
theorem befL_get {st : List (Nat × List Int)} (ha : asc st) {i : Nat} {s : List Int} (h : befAt st i = some s) (h8 : i < 8) : ∀ j, j < 4 → (befL st).getD (i * 4 + j) 0 = s.getD j 0 := by
  unfold befL
  exact foldl_put_mem st _ (i, s) ha (befAt_mem h) (by simp; omega)

/-- What the lines are forced to write, by two lists, of which the first k count; the last one counts. -/
def fLk (ls vs : List Int) : Nat → Nat → Option Int
  | 0, _ => none
  | k + 1, i => if ls.getD k 0 = (i : Int) then some (vs.getD k 0) else fLk ls vs k i
def fL (ls vs : List Int) : Nat → Option Int := fLk ls vs ls.length
theorem fL_nil : fL [] [] = noF := rfl
theorem fLk_some {ls vs : List Int} {i : Nat} {n : Int} : ∀ {k : Nat}, fLk ls vs k i = some n → ∃ j, j < k ∧ ls.getD j 0 = (i : Int) ∧ vs.getD j 0 = n
  | 0, h => by simp [fLk] at h
  | k + 1, h => by
    unfold fLk at h
    split at h
    · rename_i h1; exact ⟨k, by omega, h1, by simpa using h⟩
    · obtain ⟨j, h1, h2, h3⟩ := fLk_some h; exact ⟨j, by omega, h2, h3⟩

/-- One step backward of the document's answer. -/
def stR (p : List L) (x : Nat × List Int) (s : List Bool × List Bool) : List Bool × List Bool :=
  let l := p.getD x.1 ⟨0, 0, 0, 0⟩
  if l.op == 7 || (wr l && s.1.getD l.to.toNat false) then (matB l s.1, s.2.set x.1 true) else s
def slR0 (n r : Nat) : List Bool × List Bool := ([false, false, false, false].set r true, List.replicate n false)
/-- What is in the slice, by the steps. -/
def sliceR (p : List L) (st : List (Nat × List Int)) (r : Nat) : List Bool := (st.foldr (stR p) (slR0 p.length r)).2

end Tinker
