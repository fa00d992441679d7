/- Plain mathematics: fractions, lists in a strict order, what is greatest. -/
import Derived.Test.YtdcoebeffbkpnaaGreatPlain
set_option linter.unusedVariables false
set_option linter.unusedSimpArgs false
namespace Tinker

/-- Two lists in the same strict order, with the same members, are the same. -/
theorem srt_unique {α : Type} {r : α → α → Prop} (asym : ∀ a b, r a b → ¬ r b a) : ∀ {xs ys : List α}, xs.Pairwise r → ys.Pairwise r → (∀ a, a ∈ xs ↔ a ∈ ys) → xs = ys
  | [], [], _, _, _ => rfl
  | [], y :: t, _, _, h => by have := (h y).2 (by simp); simp at this
  | x :: t, [], _, _, h => by have := (h x).1 (by simp); simp at this
  | x :: s, y :: t, hx, hy, h => by
    obtain ⟨hx1, hx2⟩ := List.pairwise_cons.1 hx
    obtain ⟨hy1, hy2⟩ := List.pairwise_cons.1 hy
    have irr : ∀ a, ¬ r a a := fun a ha => asym a a ha ha
    have e : x = y := by
      rcases List.mem_cons.1 ((h x).1 (by simp)) with e | e
      · exact e
      · rcases List.mem_cons.1 ((h y).2 (by simp)) with e2 | e2
        · exact e2.symm
        · exact absurd (hx1 y e2) (asym _ _ (hy1 x e))
    subst e
    rw [srt_unique asym hx2 hy2 (fun a => ?_)]
    constructor
    · intro ha
      rcases List.mem_cons.1 ((h a).1 (List.mem_cons_of_mem _ ha)) with e | e
      · subst e; exact absurd (hx1 _ ha) (irr _)
      · exact e
    · intro ha
      rcases List.mem_cons.1 ((h a).2 (List.mem_cons_of_mem _ ha)) with e | e
      · subst e; exact absurd (hy1 _ ha) (irr _)
      · exact e

/-- Whether a fraction is below another one. -/
def ltQ (a b : Int × Int) : Bool := decide (a.1 * b.2 < b.1 * a.2)
theorem ltQ_trans' {a b c : Int × Int} (ha : 0 < a.2) (hb : 0 < b.2) (hc : 0 < c.2) (h1 : ltQ a b = true) (h2 : ltQ c b = false) : ltQ a c = true := by
  unfold ltQ at *
  rw [decide_eq_true_eq] at *
  rw [decide_eq_false_iff_not] at h2
  -- a1/a2 < b1/b2 ≤ c1/c2
  have h3 : b.1 * c.2 ≤ c.1 * b.2 := by omega
  have e1 : a.1 * b.2 * c.2 < b.1 * a.2 * c.2 := Int.mul_lt_mul_of_pos_right h1 hc
  have e2 : b.1 * c.2 * a.2 ≤ c.1 * b.2 * a.2 := Int.mul_le_mul_of_nonneg_right h3 (by omega)
  have e3 : b.1 * a.2 * c.2 = b.1 * c.2 * a.2 := by rw [Int.mul_assoc, Int.mul_assoc, Int.mul_comm a.2]
  have e4 : a.1 * c.2 * b.2 < c.1 * a.2 * b.2 := by
    have x1 : a.1 * b.2 * c.2 = a.1 * c.2 * b.2 := by rw [Int.mul_assoc, Int.mul_assoc, Int.mul_comm b.2]
    have x2 : c.1 * b.2 * a.2 = c.1 * a.2 * b.2 := by rw [Int.mul_assoc, Int.mul_assoc, Int.mul_comm b.2]
    omega
  exact Int.lt_of_mul_lt_mul_right e4 (by omega)
theorem ltQ_trans2 {a b c : Int × Int} (ha : 0 < a.2) (hb : 0 < b.2) (hc : 0 < c.2) (h1 : ltQ b a = false) (h2 : ltQ b c = true) : ltQ a c = true := by
  unfold ltQ at *
  rw [decide_eq_true_eq] at *
  rw [decide_eq_false_iff_not] at h1
  have h3 : a.1 * b.2 ≤ b.1 * a.2 := by omega
  have e1 : b.1 * c.2 * a.2 < c.1 * b.2 * a.2 := Int.mul_lt_mul_of_pos_right h2 ha
  have e2 : a.1 * b.2 * c.2 ≤ b.1 * a.2 * c.2 := Int.mul_le_mul_of_nonneg_right h3 (by omega)
  have e3 : b.1 * a.2 * c.2 = b.1 * c.2 * a.2 := by rw [Int.mul_assoc, Int.mul_assoc, Int.mul_comm a.2]
  have e4 : a.1 * c.2 * b.2 < c.1 * a.2 * b.2 := by
    have x1 : a.1 * b.2 * c.2 = a.1 * c.2 * b.2 := by rw [Int.mul_assoc, Int.mul_assoc, Int.mul_comm b.2]
    have x2 : c.1 * b.2 * a.2 = c.1 * a.2 * b.2 := by rw [Int.mul_assoc, Int.mul_assoc, Int.mul_comm b.2]
    omega
  exact Int.lt_of_mul_lt_mul_right e4 (by omega)
theorem ltQ_asym {a b : Int × Int} (h : ltQ a b = true) : ltQ b a = false := by
  unfold ltQ at *; simp at *; omega
theorem ltQ_irr (a : Int × Int) : ltQ a a = false := by unfold ltQ; simp

/-- A place comes before another one: its fraction is greater, or it is equal and the place is smaller. -/
def bf (q : List (Int × Int)) (i j : Nat) : Prop := ltQ (q.getD j (0, 1)) (q.getD i (0, 1)) = true ∨ (ltQ (q.getD i (0, 1)) (q.getD j (0, 1)) = false ∧ i < j)
theorem bf_asym (q : List (Int × Int)) (i j : Nat) (h : bf q i j) : ¬ bf q j i := by
  intro k
  rcases h with h | ⟨h, h'⟩ <;> rcases k with k | ⟨k, k'⟩
  · rw [ltQ_asym h] at k; contradiction
  · rw [h] at k; contradiction
  · rw [k] at h; contradiction
  · omega
/-- Fractions whose lower numbers are above 0. -/
def PosQ (q : List (Int × Int)) : Prop := ∀ i, 0 < (q.getD i (0, 1)).2
theorem bf_trans {q : List (Int × Int)} (hq : PosQ q) {i j k : Nat} (h : bf q i j) (h2 : bf q j k) : bf q i k := by
  rcases h with h | ⟨h, h'⟩ <;> rcases h2 with k' | ⟨k', k''⟩
  · refine .inl (ltQ_trans' (hq _) (hq _) (hq _) k' ?_); exact ltQ_asym h
  · exact .inl (ltQ_trans2 (hq _) (hq _) (hq _) k' h)
  · exact .inl (ltQ_trans' (hq _) (hq _) (hq _) k' h)
  · by_cases hh : ltQ (q.getD k (0, 1)) (q.getD i (0, 1)) = true
    · exact .inl hh
    · refine .inr ⟨?_, by omega⟩
      cases hx : ltQ (q.getD i (0, 1)) (q.getD k (0, 1))
      · rfl
      · have := ltQ_trans' (hq _) (hq _) (hq _) hx k'
        rw [h] at this; contradiction
theorem bf_total {q : List (Int × Int)} {i j : Nat} (h : i ≠ j) : bf q i j ∨ bf q j i := by
  unfold bf
  cases ha : ltQ (q.getD j (0, 1)) (q.getD i (0, 1)) <;> cases hb : ltQ (q.getD i (0, 1)) (q.getD j (0, 1)) <;> simp
  omega

/-- All places in this order. -/
def Ranked (q : List (Int × Int)) (n : Nat) (zs : List Nat) : Prop := zs.Pairwise (bf q) ∧ ∀ a, a ∈ zs ↔ a < n
theorem ranked_unique {q : List (Int × Int)} {n : Nat} {xs ys : List Nat} (hx : Ranked q n xs) (hy : Ranked q n ys) : xs = ys :=
  srt_unique (bf_asym q) hx.1 hy.1 (fun a => by rw [hx.2, hy.2])
theorem ranked_length {q : List (Int × Int)} {n : Nat} {xs : List Nat} (h : Ranked q n xs) : xs.length = n := by
  have hn : xs.Nodup := h.1.imp (fun {a b} hab e => by subst e; exact bf_asym q a a hab hab)
  have : xs.Perm (List.range n) := (List.perm_ext_iff_of_nodup hn List.nodup_range).2 (fun a => by rw [h.2, List.mem_range])
  simpa using this.length_eq

/-- A list in order, without what follows: one more place moved to where it belongs. -/
theorem ins_step {q : List (Int × Int)} (hq : PosQ q) {A B : List Nat} {x : Nat} (hs : (A ++ B).Pairwise (bf q)) (hB : ∀ b ∈ B, bf q x b) (hA : A = [] ∨ ∃ A' y, A = A' ++ [y] ∧ bf q y x) :
    (A ++ x :: B).Pairwise (bf q) := by
  obtain ⟨h1, h2, h3⟩ := List.pairwise_append.1 hs
  refine List.pairwise_append.2 ⟨h1, List.pairwise_cons.2 ⟨hB, h2⟩, fun a ha b hb => ?_⟩
  rcases List.mem_cons.1 hb with rfl | hb
  · rcases hA with rfl | ⟨A', y, rfl, hy⟩
    · simp at ha
    · rcases List.mem_append.1 ha with ha | ha
      · exact bf_trans hq ((List.pairwise_append.1 h1).2.2 a ha y (by simp)) hy
      · rw [List.mem_singleton.1 ha]; exact hy
  · exact h3 a ha b hb

/-- The greatest that are left: one more. -/
theorem sel_step {q : List (Int × Int)} {zs : List Nat} {b : Nat} (hs : zs.Pairwise (bf q)) (h : ∀ a ∈ zs, bf q a b) : (zs ++ [b]).Pairwise (bf q) :=
  List.pairwise_append.2 ⟨hs, List.pairwise_singleton _ _, fun a ha c hc => by rw [List.mem_singleton.1 hc]; exact h a ha⟩


/-- Places whose fraction is the greatest. -/
def topB (q : List (Int × Int)) (i : Nat) : Bool := (List.range q.length).all fun k => !ltQ (q.getD i (0, 1)) (q.getD k (0, 1))
theorem topB_iff {q : List (Int × Int)} {i : Nat} : topB q i = true ↔ ∀ k, k < q.length → ltQ (q.getD i (0, 1)) (q.getD k (0, 1)) = false := by
  unfold topB; simp [List.all_eq_true]
/-- In order, what is greatest comes first. -/
theorem srt_part {q : List (Int × Int)} (hq : PosQ q) : ∀ {zs : List Nat}, zs.Pairwise (bf q) → (∀ a ∈ zs, a < q.length) → zs = zs.filter (topB q) ++ zs.filter (fun i => !topB q i)
  | [], _, _ => rfl
  | x :: t, h, hm => by
    obtain ⟨h1, h2⟩ := List.pairwise_cons.1 h
    have ih := srt_part hq h2 (fun a ha => hm a (List.mem_cons_of_mem _ ha))
    cases hx : topB q x
    · have h0 : t.filter (topB q) = [] := by
        rw [List.filter_eq_nil_iff]
        intro a ha hp
        rw [topB_iff] at hp
        have : topB q x = true := topB_iff.2 fun k hk => by
          cases hh : ltQ (q.getD x (0, 1)) (q.getD k (0, 1))
          · rfl
          · have hxa := h1 a ha
            rcases hxa with e | ⟨e, _⟩
            · rw [hp x (hm x (by simp))] at e; contradiction
            · have e4 := ltQ_trans2 (hq a) (hq x) (hq k) e hh
              rw [hp k hk] at e4; contradiction
        rw [this] at hx; contradiction
      rw [List.filter_cons, List.filter_cons, hx, h0]
      simp only [Bool.false_eq_true, if_false, Bool.not_false, if_true, List.nil_append]
      rw [h0] at ih
      simpa using ih
    · rw [List.filter_cons, List.filter_cons, hx]
      simp only [if_true, Bool.not_true, Bool.false_eq_true, if_false, List.cons_append]
      rw [← ih]
/-- The greatest, in ascending order, are the first ones of all. -/
theorem top_first {q : List (Int × Int)} (hq : PosQ q) {zs : List Nat} (h : Ranked q q.length zs) : ((List.range q.length).filter (topB q)) = zs.take ((List.range q.length).filter (topB q)).length := by
  have hp := srt_part hq h.1 (fun a ha => (h.2 a).1 ha)
  have hl : ∀ i j, i ∈ zs.filter (topB q) → j ∈ zs.filter (topB q) → bf q i j → i < j := by
    intro i j hi hj hb
    obtain ⟨mi, ti⟩ := List.mem_filter.1 hi
    obtain ⟨mj, tj⟩ := List.mem_filter.1 hj
    rcases hb with e | ⟨_, e⟩
    · rw [topB_iff.1 tj i ((h.2 i).1 mi)] at e; contradiction
    · exact e
  have e1 : (List.range q.length).filter (topB q) = zs.filter (topB q) := by
    refine srt_unique (r := fun i j : Nat => i < j) (fun a b h1 h2 => by omega) (List.pairwise_lt_range.filter _) ?_ (fun a => by simp [List.mem_filter, h.2])
    have hw := h.1.filter (topB q)
    refine (List.pairwise_iff_forall_sublist.2 fun {a b} hs => ?_)
    have hab := (List.pairwise_iff_forall_sublist.1 hw) hs
    exact hl a b (hs.subset (by simp)) (hs.subset (by simp)) hab
  rw [e1]
  generalize zs.filter (topB q) = u at hp ⊢
  rw [hp, List.take_append_of_le_length (Nat.le_refl _), List.take_length]


end Tinker
