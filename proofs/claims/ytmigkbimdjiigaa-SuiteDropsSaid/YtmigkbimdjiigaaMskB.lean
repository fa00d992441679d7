/- Several texts in one. -/
import Derived.Test.YtmigkbimdjiigaaPlain
/- Plain mathematics: fractions, lists in a strict order, what is greatest. -/
set_option linter.unusedVariables false
set_option linter.unusedSimpArgs false
namespace Tinker

/-- Two lists in the same strict order, with the same members, are the same. -/
theorem srt_unique {α : Type} {r : α → α → Prop} (asym : ∀ a b, r a b → ¬ r b a) : ∀ {xs ys : List α}, xs.Pairwise r → ys.Pairwise r → (∀ a, a ∈ xs ↔ a ∈ ys) → xs = ys
  | [], [], _, _, _ => rfl
  | [], y :: t, _, _, h => by have := (h y).2 (by simp); simp at this
  | x :: t, [], _, _, h => by have := (h x).1 (by simp); simp at this
  | x :: s, y :: t, hx, hy, h => by
    obtain ⟨hx1, hx2⟩ := List.pairwise_cons.1 hx
    obtain ⟨hy1, hy2⟩ := List.pairwise_cons.1 hy
    have irr : ∀ a, ¬ r a a := fun a ha => asym a a ha ha
    have e : x = y := by
      rcases List.mem_cons.1 ((h x).1 (by simp)) with e | e
      · exact e
      · rcases List.mem_cons.1 ((h y).2 (by simp)) with e2 | e2
        · exact e2.symm
        · exact absurd (hx1 y e2) (asym _ _ (hy1 x e))
    subst e
    rw [srt_unique asym hx2 hy2 (fun a => ?_)]
    constructor
    · intro ha
      rcases List.mem_cons.1 ((h a).1 (List.mem_cons_of_mem _ ha)) with e | e
      · subst e; exact absurd (hx1 _ ha) (irr _)
      · exact e
    · intro ha
      rcases List.mem_cons.1 ((h a).2 (List.mem_cons_of_mem _ ha)) with e | e
      · subst e; exact absurd (hy1 _ ha) (irr _)
      · exact e

/-- Whether a fraction is below another one. -/
def ltQ (a b : Int × Int) : Bool := decide (a.1 * b.2 < b.1 * a.2)
theorem ltQ_trans' {a b c : Int × Int} (ha : 0 < a.2) (hb : 0 < b.2) (hc : 0 < c.2) (h1 : ltQ a b = true) (h2 : ltQ c b = false) : ltQ a c = true := by
  unfold ltQ at *
  rw [decide_eq_true_eq] at *
  rw [decide_eq_false_iff_not] at h2
  -- a1/a2 < b1/b2 ≤ c1/c2
  have h3 : b.1 * c.2 ≤ c.1 * b.2 := by omega
  have e1 : a.1 * b.2 * c.2 < b.1 * a.2 * c.2 := Int.mul_lt_mul_of_pos_right h1 hc
  have e2 : b.1 * c.2 * a.2 ≤ c.1 * b.2 * a.2 := Int.mul_le_mul_of_nonneg_right h3 (by omega)
  have e3 : b.1 * a.2 * c.2 = b.1 * c.2 * a.2 := by rw [Int.mul_assoc, Int.mul_assoc, Int.mul_comm a.2]
  have e4 : a.1 * c.2 * b.2 < c.1 * a.2 * b.2 := by
    have x1 : a.1 * b.2 * c.2 = a.1 * c.2 * b.2 := by rw [Int.mul_assoc, Int.mul_assoc, Int.mul_comm b.2]
    have x2 : c.1 * b.2 * a.2 = c.1 * a.2 * b.2 := by rw [Int.mul_assoc, Int.mul_assoc, Int.mul_comm b.2]
    omega
  exact Int.lt_of_mul_lt_mul_right e4 (by omega)
theorem ltQ_trans2 {a b c : Int × Int} (ha : 0 < a.2) (hb : 0 < b.2) (hc : 0 < c.2) (h1 : ltQ b a = false) (h2 : ltQ b c = true) : ltQ a c = true := by
  unfold ltQ at *
  rw [decide_eq_true_eq] at *
  rw [decide_eq_false_iff_not] at h1
  have h3 : a.1 * b.2 ≤ b.1 * a.2 := by omega
  have e1 : b.1 * c.2 * a.2 < c.1 * b.2 * a.2 := Int.mul_lt_mul_of_pos_right h2 ha
  have e2 : a.1 * b.2 * c.2 ≤ b.1 * a.2 * c.2 := Int.mul_le_mul_of_nonneg_right h3 (by omega)
  have e3 : b.1 * a.2 * c.2 = b.1 * c.2 * a.2 := by rw [Int.mul_assoc, Int.mul_assoc, Int.mul_comm a.2]
  have e4 : a.1 * c.2 * b.2 < c.1 * a.2 * b.2 := by
    have x1 : a.1 * b.2 * c.2 = a.1 * c.2 * b.2 := by rw [Int.mul_assoc, Int.mul_assoc, Int.mul_comm b.2]
    have x2 : c.1 * b.2 * a.2 = c.1 * a.2 * b.2 := by rw [Int.mul_assoc, Int.mul_assoc, Int.mul_comm b.2]
    omega
  exact Int.lt_of_mul_lt_mul_right e4 (by omega)
theorem ltQ_asym {a b : Int × Int} (h : ltQ a b = true) : ltQ b a = false := by
  unfold ltQ at *; simp at *; omega
theorem ltQ_irr (a : Int × Int) : ltQ a a = false := by unfold ltQ; simp

/-- A place comes before another one: its fraction is greater, or it is equal and the place is smaller. -/
def bf (q : List (Int × Int)) (i j : Nat) : Prop := ltQ (q.getD j (0, 1)) (q.getD i (0, 1)) = true ∨ (ltQ (q.getD i (0, 1)) (q.getD j (0, 1)) = false ∧ i < j)
theorem bf_asym (q : List (Int × Int)) (i j : Nat) (h : bf q i j) : ¬ bf q j i := by
  intro k
  rcases h with h | ⟨h, h'⟩ <;> rcases k with k | ⟨k, k'⟩
  · rw [ltQ_asym h] at k; contradiction
  · rw [h] at k; contradiction
  · rw [k] at h; contradiction
  · omega
/-- Fractions whose lower numbers are above 0. -/
def PosQ (q : List (Int × Int)) : Prop := ∀ i, 0 < (q.getD i (0, 1)).2
theorem bf_trans {q : List (Int × Int)} (hq : PosQ q) {i j k : Nat} (h : bf q i j) (h2 : bf q j k) : bf q i k := by
  rcases h with h | ⟨h, h'⟩ <;> rcases h2 with k' | ⟨k', k''⟩
  · refine .inl (ltQ_trans' (hq _) (hq _) (hq _) k' ?_); exact ltQ_asym h
  · exact .inl (ltQ_trans2 (hq _) (hq _) (hq _) k' h)
  · exact .inl (ltQ_trans' (hq _) (hq _) (hq _) k' h)
  · by_cases hh : ltQ (q.getD k (0, 1)) (q.getD i (0, 1)) = true
    · exact .inl hh
    · refine .inr ⟨?_, by omega⟩
      cases hx : ltQ (q.getD i (0, 1)) (q.getD k (0, 1))
      · rfl
      · have := ltQ_trans' (hq _) (hq _) (hq _) hx k'
        rw [h] at this; contradiction
theorem bf_total {q : List (Int × Int)} {i j : Nat} (h : i ≠ j) : bf q i j ∨ bf q j i := by
  unfold bf
  cases ha : ltQ (q.getD j (0, 1)) (q.getD i (0, 1)) <;> cases hb : ltQ (q.getD i (0, 1)) (q.getD j (0, 1)) <;> simp
  omega

/-- All places in this order. -/
def Ranked (q : List (Int × Int)) (n : Nat) (zs : List Nat) : Prop := zs.Pairwise (bf q) ∧ ∀ a, a ∈ zs ↔ a < n
theorem ranked_unique {q : List (Int × Int)} {n : Nat} {xs ys : List Nat} (hx : Ranked q n xs) (hy : Ranked q n ys) : xs = ys :=
  srt_unique (bf_asym q) hx.1 hy.1 (fun a => by rw [hx.2, hy.2])
theorem ranked_length {q : List (Int × Int)} {n : Nat} {xs : List Nat} (h : Ranked q n xs) : xs.length = n := by
  have hn : xs.Nodup := h.1.imp (fun {a b} hab e => by subst e; exact bf_asym q a a hab hab)
  have : xs.Perm (List.range n) := (List.perm_ext_iff_of_nodup hn List.nodup_range).2 (fun a => by rw [h.2, List.mem_range])
  simpa using this.length_eq

/-- A list in order, without what follows: one more place moved to where it belongs. -/
theorem ins_step {q : List (Int × Int)} (hq : PosQ q) {A B : List Nat} {x : Nat} (hs : (A ++ B).Pairwise (bf q)) (hB : ∀ b ∈ B, bf q x b) (hA : A = [] ∨ ∃ A' y, A = A' ++ [y] ∧ bf q y x) :
    (A ++ x :: B).Pairwise (bf q) := by
  obtain ⟨h1, h2, h3⟩ := List.pairwise_append.1 hs
  refine List.pairwise_append.2 ⟨h1, List.pairwise_cons.2 ⟨hB, h2⟩, fun a ha b hb => ?_⟩
  rcases List.mem_cons.1 hb with rfl | hb
  · rcases hA with rfl | ⟨A', y, rfl, hy⟩
    · simp at ha
    · rcases List.mem_append.1 ha with ha | ha
      · exact bf_trans hq ((List.pairwise_append.1 h1).2.2 a ha y (by simp)) hy
      · rw [List.mem_singleton.1 ha]; exact hy
  · exact h3 a ha b hb

/-- The greatest that are left: one more. -/
theorem sel_step {q : List (Int × Int)} {zs : List Nat} {b : Nat} (hs : zs.Pairwise (bf q)) (h : ∀ a ∈ zs, bf q a b) : (zs ++ [b]).Pairwise (bf q) :=
  List.pairwise_append.2 ⟨hs, List.pairwise_singleton _ _, fun a ha c hc => by rw [List.mem_singleton.1 hc]; exact h a ha⟩


/-- Places whose fraction is the greatest. -/
def topB (q : List (Int × Int)) (i : Nat) : Bool := (List.range q.length).all fun k => !ltQ (q.getD i (0, 1)) (q.getD k (0, 1))
theorem topB_iff {q : List (Int × Int)} {i : Nat} : topB q i = true ↔ ∀ k, k < q.length → ltQ (q.getD i (0, 1)) (q.getD k (0, 1)) = false := by
  unfold topB; simp [List.all_eq_true]
/-- In order, what is greatest comes first. -/
theorem srt_part {q : List (Int × Int)} (hq : PosQ q) : ∀ {zs : List Nat}, zs.Pairwise (bf q) → (∀ a ∈ zs, a < q.length) → zs = zs.filter (topB q) ++ zs.filter (fun i => !topB q i)
  | [], _, _ => rfl
  | x :: t, h, hm => by
    obtain ⟨h1, h2⟩ := List.pairwise_cons.1 h
    have ih := srt_part hq h2 (fun a ha => hm a (List.mem_cons_of_mem _ ha))
    cases hx : topB q x
    · have h0 : t.filter (topB q) = [] := by
        rw [List.filter_eq_nil_iff]
        intro a ha hp
        rw [topB_iff] at hp
        have : topB q x = true := topB_iff.2 fun k hk => by
          cases hh : ltQ (q.getD x (0, 1)) (q.getD k (0, 1))
          · rfl
          · have hxa := h1 a ha
            rcases hxa with e | ⟨e, _⟩
            · rw [hp x (hm x (by simp))] at e; contradiction
            · have e4 := ltQ_trans2 (hq a) (hq x) (hq k) e hh
              rw [hp k hk] at e4; contradiction
        rw [this] at hx; contradiction
      rw [List.filter_cons, List.filter_cons, hx, h0]
      simp only [Bool.false_eq_true, if_false, Bool.not_false, if_true, List.nil_append]
      rw [h0] at ih
      simpa using ih
    · rw [List.filter_cons, List.filter_cons, hx]
      simp only [if_true, Bool.not_true, Bool.false_eq_true, if_false, List.cons_append]
      rw [← ih]
/-- The greatest, in ascending order, are the first ones of all. -/
theorem top_first {q : List (Int × Int)} (hq : PosQ q) {zs : List Nat} (h : Ranked q q.length zs) : ((List.range q.length).filter (topB q)) = zs.take ((List.range q.length).filter (topB q)).length := by
  have hp := srt_part hq h.1 (fun a ha => (h.2 a).1 ha)
  have hl : ∀ i j, i ∈ zs.filter (topB q) → j ∈ zs.filter (topB q) → bf q i j → i < j := by
    intro i j hi hj hb
    obtain ⟨mi, ti⟩ := List.mem_filter.1 hi
    obtain ⟨mj, tj⟩ := List.mem_filter.1 hj
    rcases hb with e | ⟨_, e⟩
    · rw [topB_iff.1 tj i ((h.2 i).1 mi)] at e; contradiction
    · exact e
  have e1 : (List.range q.length).filter (topB q) = zs.filter (topB q) := by
    refine srt_unique (r := fun i j : Nat => i < j) (fun a b h1 h2 => by omega) (List.pairwise_lt_range.filter _) ?_ (fun a => by simp [List.mem_filter, h.2])
    have hw := h.1.filter (topB q)
    refine (List.pairwise_iff_forall_sublist.2 fun {a b} hs => ?_)
    have hab := (List.pairwise_iff_forall_sublist.1 hw) hs
    exact hl a b (hs.subset (by simp)) (hs.subset (by simp)) hab
  rw [e1]
  generalize zs.filter (topB q) = u at hp ⊢
  rw [hp, List.take_append_of_le_length (Nat.le_refl _), List.take_length]


end Tinker

/- Plain mathematics: sets of numbers from 0 to 7 as masks, and their order. -/
set_option linter.unusedVariables false
set_option linter.unusedSimpArgs false
namespace Tinker

/-- The numbers of a mask. -/
def numsM (m : Nat) : List Int := ((List.range 8).filter (fun n => m.testBit n)).map (fun n : Nat => (n : Int))
/-- The mask of numbers. -/
def maskM (s : List Int) : Nat := s.foldl (fun m n => m ||| 2 ^ n.toNat) 0
/-- A valid set. -/
def setB (s : List Int) : Bool := isSetB s && allBtw s 0 7
/-- A set hits a family. -/
def hitsM (f : List Nat) (m : Nat) : Bool := f.all (fun x => x &&& m != 0)
/-- A set without a number. -/
def woM (m n : Nat) : Nat := m &&& (255 - 2 ^ n)
/-- A set hits a family no more without any one number. -/
def needM (f : List Nat) (m : Nat) : Bool := (numsM m).all fun n => !hitsM f (woM m n.toNat)
/-- What the search comes to behind a set, with the last k numbers still open. -/
def tlM : Nat → Nat → List Nat
  | 0, _ => []
  | k + 1, m => ((m ||| 2 ^ (7 - k)) :: tlM k (m ||| 2 ^ (7 - k))) ++ tlM k m
/-- All sets, in ascending order. -/
def enumM : List Nat := 0 :: tlM 8 0

/-- A list comes before another one. -/
def befB : List Int → List Int → Bool
  | [], [] => false
  | [], _ :: _ => true
  | _ :: _, [] => false
  | x :: a, y :: b => if x = y then befB a b else decide (x < y)
theorem befB_trans : ∀ {a b c : List Int}, befB a b = true → befB b c = true → befB a c = true
  | [], [], _, h, _ => by simp [befB] at h
  | [], _ :: _, [], _, h => by simp [befB] at h
  | [], _ :: _, _ :: _, _, _ => rfl
  | x :: a, [], _, h, _ => by simp [befB] at h
  | x :: a, y :: b, [], _, h => by simp [befB] at h
  | x :: a, y :: b, z :: c, h1, h2 => by
    rw [befB] at h1 h2 ⊢
    by_cases e1 : x = y
    · subst e1
      rw [if_pos rfl] at h1
      by_cases e2 : x = z
      · subst e2
        rw [if_pos rfl] at h2 ⊢
        exact befB_trans h1 h2
      · rw [if_neg e2] at h2 ⊢
        exact h2
    · rw [if_neg e1] at h1
      have h1' := of_decide_eq_true h1
      by_cases e2 : y = z
      · subst e2
        rw [if_neg e1]
        exact h1
      · rw [if_neg e2] at h2
        have h2' := of_decide_eq_true h2
        rw [if_neg (by omega)]
        exact decide_eq_true (by omega)
theorem befB_asym : ∀ {a b : List Int}, befB a b = true → ¬ befB b a = true
  | [], [], h => by simp [befB] at h
  | [], _ :: _, _ => by simp [befB]
  | _ :: _, [], h => by simp [befB] at h
  | x :: a, y :: b, h => by
    rw [befB] at h ⊢
    by_cases e1 : x = y
    · subst e1
      rw [if_pos rfl] at h ⊢
      exact befB_asym h
    · rw [if_neg e1] at h
      rw [if_neg (fun e => e1 e.symm)]
      have h1 := of_decide_eq_true h
      simp; omega
theorem befB_total : ∀ {a b : List Int}, a ≠ b → befB a b = true ∨ befB b a = true
  | [], [], h => absurd rfl h
  | [], _ :: _, _ => .inl rfl
  | _ :: _, [], _ => .inr rfl
  | x :: a, y :: b, h => by
    by_cases e1 : x = y
    · subst e1
      rcases befB_total (a := a) (b := b) (fun e => h (by rw [e])) with h1 | h1
      · exact .inl (by rw [befB, if_pos rfl]; exact h1)
      · exact .inr (by rw [befB, if_pos rfl]; exact h1)
    · rcases Int.lt_or_lt_of_ne e1 with h1 | h1
      · exact .inl (by rw [befB, if_neg e1]; exact decide_eq_true h1)
      · exact .inr (by rw [befB, if_neg (fun e => e1 e.symm)]; exact decide_eq_true h1)

/-- Each list comes before the next one. -/
def adjB : List (List Int) → Bool
  | x :: y :: r => befB x y && adjB (y :: r)
  | _ => true
theorem adj_pair : ∀ {l : List (List Int)}, adjB l = true → l.Pairwise (fun a b => befB a b = true)
  | [], _ => List.Pairwise.nil
  | [x], _ => by simp
  | x :: y :: r, h => by
    rw [adjB, Bool.and_eq_true] at h
    have ih := adj_pair h.2
    refine List.pairwise_cons.2 ⟨fun z hz => ?_, ih⟩
    rcases List.mem_cons.1 hz with e | e
    · subst e; exact h.1
    · exact befB_trans h.1 ((List.pairwise_cons.1 ih).1 z e)

set_option maxRecDepth 100000 in
theorem enum_mem : ∀ m, m < 256 → m ∈ enumM := by decide +kernel
set_option maxRecDepth 100000 in
theorem enum_lt : ∀ m, m ∈ enumM → m < 256 := by decide +kernel
set_option maxRecDepth 100000 in
theorem enum_adj : adjB (enumM.map numsM) = true := by decide +kernel
theorem enum_srt : (enumM.map numsM).Pairwise (fun a b => befB a b = true) := adj_pair enum_adj
set_option maxRecDepth 100000 in
theorem maskM_nums : ∀ m, m < 256 → maskM (numsM m) = m := by decide +kernel
set_option maxRecDepth 100000 in
theorem setB_nums : ∀ m, m < 256 → setB (numsM m) = true := by decide +kernel
theorem numsM_inj {m n : Nat} (hm : m < 256) (hn : n < 256) (h : numsM m = numsM n) : m = n := by
  rw [← maskM_nums m hm, h, maskM_nums n hn]
theorem numsM_mem {m n : Nat} : (n : Int) ∈ numsM m ↔ n < 8 ∧ m.testBit n = true := by
  unfold numsM
  simp only [List.mem_map, List.mem_filter, List.mem_range]
  constructor
  · rintro ⟨a, h, e⟩
    have : a = n := by omega
    rw [← this]; exact h
  · intro h
    exact ⟨n, h, rfl⟩
theorem numsM_mem' {m : Nat} {x : Int} : x ∈ numsM m ↔ ∃ n : Nat, x = (n : Int) ∧ n < 8 ∧ m.testBit n = true := by
  unfold numsM
  simp only [List.mem_map, List.mem_filter, List.mem_range]
  constructor
  · rintro ⟨n, ⟨h1, h2⟩, rfl⟩; exact ⟨n, rfl, h1, h2⟩
  · rintro ⟨n, rfl, h1, h2⟩; exact ⟨n, ⟨h1, h2⟩, rfl⟩
theorem maskM_go (s : List Int) : ∀ (a n : Nat), (s.foldl (fun m n => m ||| 2 ^ n.toNat) a).testBit n = (a.testBit n || s.any (fun x => x.toNat == n)) := by
  induction s with
  | nil => intro a n; simp
  | cons x r ih =>
    intro a n
    rw [List.foldl_cons, ih, Nat.testBit_or, Nat.testBit_two_pow, List.any_cons, Bool.or_assoc]
    congr 2
theorem maskM_bit (s : List Int) (n : Nat) : (maskM s).testBit n = s.any (fun x => x.toNat == n) := by
  unfold maskM; rw [maskM_go]; simp
theorem setB_btw {s : List Int} (h : setB s = true) {x : Int} (hx : x ∈ s) : 0 ≤ x ∧ x ≤ 7 := by
  unfold setB at h
  rw [Bool.and_eq_true] at h
  exact btw_true.1 (List.all_eq_true.1 h.2 x hx)
theorem maskM_lt_go (s : List Int) : (∀ x ∈ s, 0 ≤ x ∧ x ≤ 7) → ∀ a : Nat, a < 256 → s.foldl (fun m n => m ||| 2 ^ n.toNat) a < 256 := by
  induction s with
  | nil => intro _ a h; simpa
  | cons x r ih =>
    intro h a ha
    rw [List.foldl_cons]
    refine ih (fun y hy => h y (List.mem_cons_of_mem _ hy)) _ (Nat.or_lt_two_pow (n := 8) ha ?_)
    obtain ⟨h1, h2⟩ := h x (by simp)
    exact Nat.pow_lt_pow_right (by omega) (by omega)
theorem maskM_lt {s : List Int} (h : setB s = true) : maskM s < 256 := maskM_lt_go s (fun x hx => setB_btw h hx) 0 (by omega)
theorem isSetB_pair : ∀ {l : List Int}, isSetB l = true → l.Pairwise (· < ·)
  | [], _ => List.Pairwise.nil
  | [x], _ => by simp
  | x :: y :: r, h => by
    rw [isSetB, Bool.and_eq_true] at h
    have ih := isSetB_pair h.2
    have h1 := of_decide_eq_true h.1
    refine List.pairwise_cons.2 ⟨fun z hz => ?_, ih⟩
    rcases List.mem_cons.1 hz with e | e
    · subst e; exact h1
    · have := (List.pairwise_cons.1 ih).1 z e; omega
theorem nums_maskM {s : List Int} (h : setB s = true) : numsM (maskM s) = s := by
  have hs : isSetB s = true := by unfold setB at h; rw [Bool.and_eq_true] at h; exact h.1
  have hn := setB_nums _ (maskM_lt h)
  have hn' : isSetB (numsM (maskM s)) = true := by unfold setB at hn; rw [Bool.and_eq_true] at hn; exact hn.1
  refine srt_unique (r := fun a b : Int => a < b) (fun a b h1 h2 => by omega) (isSetB_pair hn') (isSetB_pair hs) fun x => ?_
  rw [numsM_mem']
  constructor
  · rintro ⟨n, rfl, h1, h2⟩
    rw [maskM_bit, List.any_eq_true] at h2
    obtain ⟨y, hy, e⟩ := h2
    have e' : y.toNat = n := by simpa using e
    have := setB_btw h hy
    have : y = (n : Int) := by omega
    rw [← this]; exact hy
  · intro hx
    obtain ⟨h1, h2⟩ := setB_btw h hx
    refine ⟨x.toNat, by omega, by omega, ?_⟩
    rw [maskM_bit, List.any_eq_true]
    exact ⟨x, hx, by simp⟩

/-- A list put into its place among others. -/
def insO (out : List (List Int)) (x : List Int) : List (List Int) := out.takeWhile (befB · x) ++ x :: out.dropWhile (befB · x)
theorem insO_mem {out : List (List Int)} {x y : List Int} : y ∈ insO out x ↔ y = x ∨ y ∈ out := by
  unfold insO
  rw [List.mem_append, List.mem_cons]
  constructor
  · rintro (h | h | h)
    · exact .inr (List.takeWhile_sublist _ |>.subset h)
    · exact .inl h
    · exact .inr (List.dropWhile_sublist _ |>.subset h)
  · rintro (h | h)
    · exact .inr (.inl h)
    · rw [← List.takeWhile_append_dropWhile (p := (befB · x)) (l := out), List.mem_append] at h
      rcases h with h | h
      · exact .inl h
      · exact .inr (.inr h)
theorem takeW_all {p : List Int → Bool} : ∀ {l : List (List Int)} {a : List Int}, a ∈ l.takeWhile p → p a = true
  | [], a, h => by simp at h
  | x :: r, a, h => by
    rw [List.takeWhile_cons] at h
    by_cases hp : p x = true
    · rw [if_pos hp] at h
      rcases List.mem_cons.1 h with e | e
      · subst e; exact hp
      · exact takeW_all e
    · rw [if_neg hp] at h; simp at h
theorem dropW_first {p : List Int → Bool} : ∀ {l r : List (List Int)} {a : List Int}, l.dropWhile p = a :: r → p a = false
  | [], r, a, h => by simp at h
  | x :: s, r, a, h => by
    rw [List.dropWhile_cons] at h
    by_cases hp : p x = true
    · rw [if_pos hp] at h; exact dropW_first h
    · rw [if_neg hp] at h
      injection h with h1 h2
      subst h1
      simpa using hp
theorem insO_srt {out : List (List Int)} {x : List Int} (h : out.Pairwise (fun a b => befB a b = true)) (hx : x ∉ out) : (insO out x).Pairwise (fun a b => befB a b = true) := by
  unfold insO
  have ht := h.sublist (List.takeWhile_sublist (befB · x))
  have hd := h.sublist (List.dropWhile_sublist (befB · x))
  have hxd : ∀ b ∈ out.dropWhile (befB · x), befB x b = true := by
    cases hr : out.dropWhile (befB · x) with
    | nil => intro b hb; simp at hb
    | cons y r =>
      have h1 : befB y x = false := dropW_first (p := (befB · x)) hr
      have hy : y ∈ out := (List.dropWhile_sublist (befB · x)).subset (by rw [hr]; simp)
      have h2 : befB x y = true := by
        rcases befB_total (a := x) (b := y) (fun e => hx (by rw [e]; exact hy)) with h2 | h2
        · exact h2
        · rw [h1] at h2; cases h2
      intro b hb
      rcases List.mem_cons.1 hb with e | e
      · subst e; exact h2
      · rw [hr] at hd
        exact befB_trans h2 ((List.pairwise_cons.1 hd).1 b e)
  refine List.pairwise_append.2 ⟨ht, List.pairwise_cons.2 ⟨hxd, hd⟩, fun a ha b hb => ?_⟩
  have hax : befB a x = true := takeW_all (p := (befB · x)) ha
  rcases List.mem_cons.1 hb with e | e
  · subst e; exact hax
  · exact befB_trans hax (hxd b e)

/-- Sets in ascending order. -/
def ordL (l : List Nat) : List (List Int) := l.foldl (fun o m => insO o (numsM m)) []
theorem ordL_go : ∀ (l : List Nat) (out : List (List Int)), out.Pairwise (fun a b => befB a b = true) → (∀ m ∈ l, m < 256 ∧ numsM m ∉ out) → l.Nodup →
    (l.foldl (fun o m => insO o (numsM m)) out).Pairwise (fun a b => befB a b = true) ∧ ∀ y, y ∈ l.foldl (fun o m => insO o (numsM m)) out ↔ y ∈ out ∨ ∃ m ∈ l, y = numsM m
  | [], out, h, _, _ => ⟨h, fun y => by simp⟩
  | m :: r, out, h, hm, hn => by
    obtain ⟨hn1, hn2⟩ := List.nodup_cons.1 hn
    have hm0 := hm m (by simp)
    obtain ⟨i1, i2⟩ := ordL_go r (insO out (numsM m)) (insO_srt h hm0.2) (fun k hk => by
      have hk0 := hm k (List.mem_cons_of_mem _ hk)
      refine ⟨hk0.1, fun hc => ?_⟩
      rcases insO_mem.1 hc with e | e
      · exact hn1 (by rw [← numsM_inj hk0.1 hm0.1 e]; exact hk)
      · exact hk0.2 e) hn2
    rw [List.foldl_cons]
    refine ⟨i1, fun y => ?_⟩
    rw [i2 y, insO_mem]
    constructor
    · rintro ((h1 | h1) | ⟨k, hk, h1⟩)
      · exact .inr ⟨m, by simp, h1⟩
      · exact .inl h1
      · exact .inr ⟨k, List.mem_cons_of_mem _ hk, h1⟩
    · rintro (h1 | ⟨k, hk, h1⟩)
      · exact .inl (.inr h1)
      · rcases List.mem_cons.1 hk with e | e
        · subst e; exact .inl (.inl h1)
        · exact .inr ⟨k, e, h1⟩
theorem ordL_eq {l : List Nat} {P : Nat → Bool} (hn : l.Nodup) (hl : ∀ m, m ∈ l ↔ m < 256 ∧ P m = true) : ordL l = (enumM.filter P).map numsM := by
  obtain ⟨h1, h2⟩ := ordL_go l [] List.Pairwise.nil (fun m hm => ⟨((hl m).1 hm).1, by simp⟩) hn
  refine srt_unique (r := fun a b => befB a b = true) (fun a b => befB_asym) h1 (enum_srt.sublist (List.filter_sublist.map numsM)) fun y => ?_
  show y ∈ l.foldl (fun o m => insO o (numsM m)) [] ↔ _
  rw [h2 y]
  simp only [List.mem_map, List.mem_filter]
  constructor
  · rintro (h | ⟨m, hm, e⟩)
    · simp at h
    · exact ⟨m, ⟨enum_mem m ((hl m).1 hm).1, ((hl m).1 hm).2⟩, e.symm⟩
  · rintro ⟨m, ⟨hm, hp⟩, e⟩
    exact .inr ⟨m, (hl m).2 ⟨enum_lt m hm, hp⟩, e.symm⟩
theorem ord_range (P : Nat → Bool) : ordL ((List.range 256).filter P) = (enumM.filter P).map numsM :=
  ordL_eq (List.nodup_range.sublist List.filter_sublist) fun m => by simp

/-- The smallest sets that hit a family. -/
def blkM (f : List Nat) : List Nat := enumM.filter fun m => hitsM f m && needM f m

set_option maxRecDepth 100000 in
theorem has_bit : ∀ m, m < 256 → ∀ n, n < 8 → (m &&& 2 ^ n != 0) = m.testBit n := by decide +kernel
set_option maxRecDepth 100000 in
theorem shr_bit : ∀ m, m < 256 → ∀ n, n < 8 → ((m / 2 ^ n) &&& 1 == 1) = m.testBit n := by decide +kernel
set_option maxRecDepth 100000 in
theorem wo_sub : ∀ m, m < 256 → ∀ n, n < 8 → m.testBit n = true → m - 2 ^ n = woM m n := by decide +kernel
set_option maxRecDepth 100000 in
theorem wo_not : ∀ m, m < 256 → ∀ n, n < 8 → m &&& (18446744073709551615 - 2 ^ n) = woM m n := by decide +kernel
set_option maxRecDepth 100000 in
theorem with_lt : ∀ m, m < 256 → ∀ n, n < 8 → m ||| 2 ^ n < 256 := by decide +kernel
set_option maxRecDepth 100000 in
theorem wo_lt : ∀ m, m < 256 → ∀ n, n < 8 → woM m n < 256 := by decide +kernel

end Tinker

/- Plain mathematics: blockers of blockers, what is least, and how many sets a blocker has. -/
set_option linter.unusedVariables false
set_option linter.unusedSimpArgs false
namespace Tinker

theorem and_ne {x y : Nat} : (x &&& y != 0) = true ↔ ∃ i, x.testBit i = true ∧ y.testBit i = true := by
  rw [bne_iff_ne]
  constructor
  · intro h
    have := Nat.exists_testBit_of_ne_zero h
    obtain ⟨i, hi⟩ := this
    rw [Nat.testBit_and, Bool.and_eq_true] at hi
    exact ⟨i, hi⟩
  · rintro ⟨i, h1, h2⟩ e
    have : (x &&& y).testBit i = true := by rw [Nat.testBit_and, h1, h2]; rfl
    rw [e, Nat.zero_testBit] at this
    cases this
theorem hitsM_iff {f : List Nat} {m : Nat} : hitsM f m = true ↔ ∀ x ∈ f, ∃ i, x.testBit i = true ∧ m.testBit i = true := by
  unfold hitsM
  rw [List.all_eq_true]
  exact ⟨fun h x hx => and_ne.1 (h x hx), fun h x hx => and_ne.2 (h x hx)⟩
/-- A part. -/
def subM (x y : Nat) : Prop := ∀ i, x.testBit i = true → y.testBit i = true
theorem subM_and {x y : Nat} : (x &&& y == x) = true ↔ subM x y := by
  rw [beq_iff_eq]
  constructor
  · intro h i hi
    rw [← h, Nat.testBit_and, Bool.and_eq_true] at hi
    exact hi.2
  · intro h
    refine Nat.eq_of_testBit_eq fun i => ?_
    rw [Nat.testBit_and]
    cases hx : x.testBit i
    · rfl
    · rw [h i hx]; rfl
theorem bit_lt {m i : Nat} (hm : m < 256) (h : m.testBit i = true) : i < 8 := by
  rcases Nat.lt_or_ge i 8 with h8 | h8
  · exact h8
  · have : m < 2 ^ i := Nat.lt_of_lt_of_le hm (Nat.pow_le_pow_right (n := 2) (by omega) h8)
    rw [Nat.testBit_lt_two_pow this] at h
    cases h
set_option maxRecDepth 100000 in
theorem wo_bit8 : ∀ m, m < 256 → ∀ n, n < 8 → ∀ i, i < 8 → (woM m n).testBit i = (m.testBit i && decide (i ≠ n)) := by decide +kernel
theorem wo_bit {m n i : Nat} (hm : m < 256) (hn : n < 8) : (woM m n).testBit i = (m.testBit i && decide (i ≠ n)) := by
  rcases Nat.lt_or_ge i 8 with h8 | h8
  · exact wo_bit8 m hm n hn i h8
  · have h1 : m < 2 ^ i := Nat.lt_of_lt_of_le hm (Nat.pow_le_pow_right (n := 2) (by omega) h8)
    have h2 : woM m n < 2 ^ i := Nat.lt_of_lt_of_le (wo_lt m hm n hn) (Nat.pow_le_pow_right (n := 2) (by omega) h8)
    rw [Nat.testBit_lt_two_pow h1, Nat.testBit_lt_two_pow h2]; rfl
theorem needM_iff {f : List Nat} {m : Nat} (hm : m < 256) : needM f m = true ↔ ∀ n, m.testBit n = true → hitsM f (woM m n) = false := by
  unfold needM
  rw [List.all_eq_true]
  constructor
  · intro h n hn
    have := h (n : Int) (numsM_mem.2 ⟨bit_lt hm hn, hn⟩)
    simpa using this
  · intro h x hx
    obtain ⟨n, rfl, _, h2⟩ := numsM_mem'.1 hx
    simp [h n h2]
theorem blk_iff {f : List Nat} {m : Nat} : m ∈ blkM f ↔ m < 256 ∧ hitsM f m = true ∧ ∀ n, m.testBit n = true → hitsM f (woM m n) = false := by
  unfold blkM
  rw [List.mem_filter, Bool.and_eq_true]
  constructor
  · rintro ⟨h1, h2, h3⟩
    exact ⟨enum_lt m h1, h2, (needM_iff (enum_lt m h1)).1 h3⟩
  · rintro ⟨h1, h2, h3⟩
    exact ⟨enum_mem m h1, h2, (needM_iff h1).2 h3⟩
theorem blk_lt {f : List Nat} {m : Nat} (h : m ∈ blkM f) : m < 256 := (blk_iff.1 h).1
theorem hitsM_mono {f : List Nat} {a b : Nat} (h : hitsM f a = true) (hs : subM a b) : hitsM f b = true :=
  hitsM_iff.2 fun x hx => by
    obtain ⟨i, h1, h2⟩ := hitsM_iff.1 h x hx
    exact ⟨i, h1, hs i h2⟩
theorem wo_sub_of {m n : Nat} (hm : m < 256) (hn : n < 8) : subM (woM m n) m := fun i hi => by
  rw [wo_bit hm hn, Bool.and_eq_true] at hi
  exact hi.1
theorem wo_less {m n : Nat} (hm : m < 256) (h : m.testBit n = true) : woM m n < m := by
  have hle : woM m n ≤ m := Nat.and_le_left
  refine Nat.lt_of_le_of_ne hle fun e => ?_
  have := wo_bit (i := n) hm (bit_lt hm h)
  rw [e, h] at this
  simp at this
/-- A set that hits a family has a part that is in the blocker. -/
theorem blk_part {f : List Nat} : ∀ (k m : Nat), m ≤ k → m < 256 → hitsM f m = true → ∃ y ∈ blkM f, subM y m
  | k, m, hk, hm, hh => by
    by_cases hn : ∀ n, m.testBit n = true → hitsM f (woM m n) = false
    · exact ⟨m, blk_iff.2 ⟨hm, hh, hn⟩, fun _ h => h⟩
    · simp only [Classical.not_forall] at hn
      obtain ⟨n, hb, hx⟩ := hn
      have hx' : hitsM f (woM m n) = true := by simpa using hx
      have hl := wo_less hm hb
      match k with
      | 0 => omega
      | k + 1 =>
        obtain ⟨y, hy, hs⟩ := blk_part k (woM m n) (by omega) (by omega) hx'
        exact ⟨y, hy, fun i hi => wo_sub_of hm (bit_lt hm hb) i (hs i hi)⟩
/-- What is not in a set. -/
def coM (m : Nat) : Nat := 255 ^^^ m
theorem co_bit {m i : Nat} (hi : i < 8) : (coM m).testBit i = !m.testBit i := by
  unfold coM
  rw [Nat.testBit_xor, show (255 : Nat) = 2 ^ 8 - 1 from rfl, Nat.testBit_two_pow_sub_one]
  simp [hi]
theorem co_lt {m : Nat} (hm : m < 256) : coM m < 256 := Nat.xor_lt_two_pow (n := 8) (by omega) hm
theorem hits_blk {f : List Nat} (hf : ∀ x ∈ f, x < 256) {m : Nat} (hm : m < 256) : hitsM (blkM f) m = true ↔ ∃ x ∈ f, subM x m := by
  constructor
  · intro h
    refine Classical.byContradiction fun hc => ?_
    have hco : hitsM f (coM m) = true := hitsM_iff.2 fun x hx => by
      refine Classical.byContradiction fun hn => hc ⟨x, hx, fun i hi => ?_⟩
      cases hmi : m.testBit i
      · exact absurd ⟨i, hi, by rw [co_bit (bit_lt (hf x hx) hi), hmi]; rfl⟩ hn
      · rfl
    obtain ⟨y, hy, hs⟩ := blk_part _ _ (Nat.le_refl _) (co_lt hm) hco
    obtain ⟨i, h1, h2⟩ := hitsM_iff.1 h y hy
    have h3 := hs i h1
    rw [co_bit (bit_lt hm h2), h2] at h3
    cases h3
  · rintro ⟨x, hx, hs⟩
    refine hitsM_iff.2 fun y hy => ?_
    obtain ⟨i, h1, h2⟩ := hitsM_iff.1 (blk_iff.1 hy).2.1 x hx
    exact ⟨i, h2, hs i h1⟩
/-- What is least. -/
def leastB (f : List Nat) (m : Nat) : Bool := f.contains m && f.all fun x => x == m || !(x &&& m == x)
def leastM (f : List Nat) : List Nat := enumM.filter (leastB f)
theorem leastB_iff {f : List Nat} {m : Nat} : leastB f m = true ↔ m ∈ f ∧ ∀ x ∈ f, subM x m → x = m := by
  unfold leastB
  rw [Bool.and_eq_true, List.contains_iff_mem, List.all_eq_true]
  refine and_congr Iff.rfl ⟨fun h x hx hs => ?_, fun h x hx => ?_⟩
  · have := h x hx
    rw [Bool.or_eq_true] at this
    rcases this with h1 | h1
    · simpa using h1
    · rw [subM_and.2 hs] at h1; cases h1
  · by_cases e : x = m
    · simp [e]
    · have : (x &&& m == x) = false := by
        cases hb : (x &&& m == x)
        · rfl
        · exact absurd (h x hx (subM_and.1 hb)) e
      simp [this]
theorem least_iff {f : List Nat} {m : Nat} (hf : ∀ x ∈ f, x < 256) : m ∈ leastM f ↔ m ∈ f ∧ ∀ x ∈ f, subM x m → x = m := by
  unfold leastM
  rw [List.mem_filter, leastB_iff]
  exact ⟨fun h => h.2, fun h => ⟨enum_mem m (hf m h.1), h⟩⟩
theorem sub_other {x m : Nat} (hs : subM x m) (hne : x ≠ m) : ∃ n, m.testBit n = true ∧ x.testBit n = false := by
  refine Classical.byContradiction fun hc => hne (Nat.eq_of_testBit_eq fun i => ?_)
  cases hx : x.testBit i
  · cases hm : m.testBit i
    · rfl
    · exact absurd ⟨i, hm, hx⟩ hc
  · rw [hs i hx]
theorem sub_wo {x m n : Nat} (hm : m < 256) (hs : subM x m) (hn : m.testBit n = true) (hx : x.testBit n = false) : subM x (woM m n) := fun i hi => by
  rw [wo_bit hm (bit_lt hm hn), hs i hi]
  have : i ≠ n := fun e => by rw [e, hx] at hi; cases hi
  simp [this]
/-- The blocker of the blocker is what is least. -/
theorem blk_blk {f : List Nat} (hf : ∀ x ∈ f, x < 256) : blkM (blkM f) = leastM f := by
  unfold leastM
  show enumM.filter _ = _
  refine List.filter_congr fun m hm => ?_
  have hm := enum_lt m hm
  rw [Bool.eq_iff_iff, Bool.and_eq_true, needM_iff hm, leastB_iff, hits_blk hf hm]
  constructor
  · rintro ⟨⟨x, hx, hs⟩, hn⟩
    have key : ∀ x ∈ f, subM x m → x = m := fun x hx hs => by
      refine Classical.byContradiction fun hne => ?_
      obtain ⟨n, h1, h2⟩ := sub_other hs hne
      have h3 := hn n h1
      have h4 := (hits_blk hf (wo_lt m hm n (bit_lt hm h1))).2 ⟨x, hx, sub_wo hm hs h1 h2⟩
      rw [h3] at h4; cases h4
    exact ⟨by rw [← key x hx hs]; exact hx, key⟩
  · rintro ⟨h1, h2⟩
    refine ⟨⟨m, h1, fun _ h => h⟩, fun n hn => ?_⟩
    cases hh : hitsM (blkM f) (woM m n)
    · rfl
    · obtain ⟨x, hx, hs⟩ := (hits_blk hf (wo_lt m hm n (bit_lt hm hn))).1 hh
      have e := h2 x hx (fun i hi => wo_sub_of hm (bit_lt hm hn) i (hs i hi))
      have := hs n (by rw [e]; exact hn)
      rw [wo_bit hm (bit_lt hm hn)] at this
      simp at this
theorem least_part {f : List Nat} (hf : ∀ x ∈ f, x < 256) : ∀ (k x : Nat), x ≤ k → x ∈ f → ∃ y ∈ leastM f, subM y x
  | k, x, hk, hx => by
    by_cases hn : ∀ y ∈ f, subM y x → y = x
    · exact ⟨x, (least_iff hf).2 ⟨hx, hn⟩, fun _ h => h⟩
    · simp only [Classical.not_forall] at hn
      obtain ⟨y, hy, hs, hne⟩ := hn
      have hl : y < x := by
        have e : y &&& x = y := by simpa using subM_and.2 hs
        have : y ≤ x := by rw [← e]; exact Nat.and_le_right
        omega
      match k with
      | 0 => omega
      | k + 1 =>
        obtain ⟨z, hz, hzs⟩ := least_part hf k y (by omega) hy
        exact ⟨z, hz, fun i hi => hs i (hzs i hi)⟩
theorem least_hits {f : List Nat} (hf : ∀ x ∈ f, x < 256) (m : Nat) : hitsM (leastM f) m = hitsM f m := by
  rw [Bool.eq_iff_iff, hitsM_iff, hitsM_iff]
  constructor
  · intro h x hx
    obtain ⟨y, hy, hs⟩ := least_part hf _ x (Nat.le_refl _) hx
    obtain ⟨i, h1, h2⟩ := h y hy
    exact ⟨i, hs i h1, h2⟩
  · intro h x hx
    exact h x ((least_iff hf).1 hx).1
theorem blk_least {f : List Nat} (hf : ∀ x ∈ f, x < 256) : blkM (leastM f) = blkM f := by
  unfold blkM needM
  rw [show hitsM (leastM f) = hitsM f from funext (least_hits hf)]

/-- The bottom of a set's chain. -/
def botM (m : Nat) : Nat := ((List.range 8).foldl (fun (p : Nat × Nat) i => if m.testBit i then (if p.1 = 0 then p else (p.1 - 1, p.2 ||| 2 ^ i)) else (p.1 + 1, p.2)) (0, 0)).2
def botL : List Nat := (List.range 256).filter fun m => botM m == m
set_option maxRecDepth 100000 in
theorem bot_count : botL.length = 70 := by decide +kernel
set_option maxRecDepth 100000 in
theorem bot_mem : ∀ m, m < 256 → botM m ∈ botL := by decide +kernel
set_option maxRecDepth 100000 in
theorem bot_chain : (botL.all fun b => ((List.range 256).filter fun m => botM m == b).all fun x => ((List.range 256).filter fun m => botM m == b).all fun y => x &&& y == x || y &&& x == y) = true := by decide +kernel
theorem bot_comp {x y : Nat} (hx : x < 256) (hy : y < 256) (h : botM x = botM y) : subM x y ∨ subM y x := by
  have h1 := List.all_eq_true.1 (List.all_eq_true.1 (List.all_eq_true.1 bot_chain (botM x) (bot_mem x hx)) x (by simp [hx])) y (by simp [hy, h])
  rw [Bool.or_eq_true, subM_and, subM_and] at h1
  exact h1
theorem nodup_len : ∀ {l k : List Nat}, l.Nodup → (∀ x ∈ l, x ∈ k) → l.length ≤ k.length
  | [], k, _, _ => Nat.zero_le _
  | x :: l, k, hn, hs => by
    obtain ⟨h1, h2⟩ := List.nodup_cons.1 hn
    have hx := hs x (by simp)
    have := nodup_len (l := l) (k := k.erase x) h2 fun y hy => (List.mem_erase_of_ne (fun e => h1 (by rw [← e]; exact hy))).2 (hs y (List.mem_cons_of_mem _ hy))
    rw [List.length_erase_of_mem hx] at this
    have : 0 < k.length := List.length_pos_of_mem hx
    simp only [List.length_cons]
    omega
theorem nodup_map {l : List Nat} {g : Nat → Nat} (hn : l.Nodup) (hi : ∀ x ∈ l, ∀ y ∈ l, g x = g y → x = y) : (l.map g).Nodup := by
  induction l with
  | nil => simp
  | cons x r ih =>
    obtain ⟨h1, h2⟩ := List.nodup_cons.1 hn
    rw [List.map_cons, List.nodup_cons]
    refine ⟨fun hc => ?_, ih h2 fun a ha b hb => hi a (List.mem_cons_of_mem _ ha) b (List.mem_cons_of_mem _ hb)⟩
    obtain ⟨y, hy, e⟩ := List.mem_map.1 hc
    exact h1 (by rw [← hi y (List.mem_cons_of_mem _ hy) x (by simp) e]; exact hy)
/-- Sets of which none is a part of another one are at most 70. -/
theorem sperner {l : List Nat} (hn : l.Nodup) (hl : ∀ x ∈ l, x < 256) (ha : ∀ x ∈ l, ∀ y ∈ l, subM x y → x = y) : l.length ≤ 70 := by
  have h1 := nodup_map (g := botM) hn fun x hx y hy e => by
    rcases bot_comp (hl x hx) (hl y hy) e with h | h
    · exact ha x hx y hy h
    · exact (ha y hy x hx h).symm
  have h2 := nodup_len (k := botL) h1 fun x hx => by
    obtain ⟨y, hy, e⟩ := List.mem_map.1 hx
    rw [← e]; exact bot_mem y (hl y hy)
  rw [List.length_map, bot_count] at h2
  exact h2
set_option maxRecDepth 100000 in
theorem enum_nodup : enumM.Nodup := by decide +kernel
theorem blk_anti {f : List Nat} : ∀ x ∈ blkM f, ∀ y ∈ blkM f, subM x y → x = y := fun x hx y hy hs => by
  refine Classical.byContradiction fun hne => ?_
  obtain ⟨n, h1, h2⟩ := sub_other hs hne
  obtain ⟨hy1, _, hy3⟩ := blk_iff.1 hy
  have h3 := hitsM_mono (blk_iff.1 hx).2.1 (sub_wo hy1 hs h1 h2)
  rw [hy3 n h1] at h3; cases h3
theorem blk_len (f : List Nat) : (blkM f).length ≤ 70 := sperner (enum_nodup.sublist List.filter_sublist) (fun x hx => blk_lt hx) blk_anti
theorem least_lt {f : List Nat} {m : Nat} (h : m ∈ leastM f) : m < 256 := enum_lt m (List.filter_sublist.subset h)
theorem least_len {f : List Nat} (hf : ∀ x ∈ f, x < 256) : (leastM f).length ≤ 70 := by rw [← blk_blk hf]; exact blk_len _

end Tinker
