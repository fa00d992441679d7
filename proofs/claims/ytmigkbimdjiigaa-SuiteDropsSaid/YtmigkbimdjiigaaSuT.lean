/- Several texts in one. -/
import Derived.Test.YtmigkbimdjiigaaSuG
import Derived.Test.YtmigkbimdjiigaaSuJ
import Derived.Test.YtmigkbimdjiigaaSuN
/- Plain mathematics: the smallest cover. -/
set_option linter.unusedVariables false
set_option linter.unusedSimpArgs false
namespace Tinker
set_option maxRecDepth 100000 in
theorem comb_mem8 : ∀ n, n < 9 → (List.range (2 ^ n)).all (fun S => (combT n n (szK S) 0).contains S) = true := by decide +kernel
set_option maxRecDepth 100000 in
theorem comb_sz8 : ∀ n, n < 9 → ∀ m, m < 9 → (combT n n m 0).all (fun x => szK x == m) = true := by decide +kernel
theorem covF_none {s : List Nat} : ∀ {k : Nat}, covF s k = none → ∀ m, m < k → (combT s.length s.length m 0).find? (covB s) = none
  | 0, _, _, h => absurd h (Nat.not_lt_zero _)
  | k + 1, h, m, hm => by
    rw [covF_succ] at h
    cases hc : covF s k with
    | some c => rw [hc] at h; cases h
    | none =>
      rw [hc] at h
      rcases Nat.lt_or_ge m k with h1 | h1
      · exact covF_none hc m h1
      · obtain rfl : m = k := by omega
        exact h
/-- The cover is found at its size, and no smaller set is one. -/
theorem covM_at {s : List Nat} (hl : s.length ≤ 8) : ∃ m, m ≤ s.length ∧ covF s m = none ∧ (combT s.length s.length m 0).find? (covB s) = some (covM s) := by
  have key : ∀ k, k ≤ s.length + 1 → (covF s k = none ∨ ∃ m, m < k ∧ covF s m = none ∧ (combT s.length s.length m 0).find? (covB s) = some (covM s)) := by
    intro k
    induction k with
    | zero => intro _; exact .inl rfl
    | succ k ih =>
      intro hk
      rcases ih (by omega) with h | ⟨m, h1, h2, h3⟩
      · cases hf : (combT s.length s.length k 0).find? (covB s) with
        | none => left; rw [covF_succ, h, hf]; rfl
        | some c =>
          right
          have := covM_of (by omega) h hf
          exact ⟨k, by omega, h, by rw [this]; exact hf⟩
      · exact .inr ⟨m, by omega, h2, h3⟩
  rcases key (s.length + 1) (Nat.le_refl _) with h | ⟨m, h1, h2, h3⟩
  · obtain ⟨c, hc⟩ := covF_some hl
    rw [h] at hc; cases hc
  · exact ⟨m, by omega, h2, h3⟩
theorem covM_min {s : List Nat} (hl : s.length ≤ 8) {S : Nat} (hS : S < 2 ^ s.length) (hc : covB s S = true) : szK (covM s) ≤ szK S := by
  obtain ⟨m, h1, h2, h3⟩ := covM_at hl
  have e1 := List.all_eq_true.1 (comb_sz8 s.length (by omega) m (by omega)) _ (List.mem_of_find?_eq_some h3)
  have e2 : szK (covM s) = m := by simpa using e1
  have e3 := List.all_eq_true.1 (comb_mem8 s.length (by omega)) S (List.mem_range.2 hS)
  rcases Nat.lt_or_ge (szK S) m with h | h
  · exfalso
    have := covF_none h2 _ h
    rw [List.find?_eq_none] at this
    exact this S (by simpa using e3) hc
  · omega
/-- What rows in range are as a mask. -/
theorem maskM_two {rows : List Int} {n : Nat} (hn : n ≤ 8) (h : ∀ x ∈ rows, 0 ≤ x ∧ x < (n : Int)) : maskM rows < 2 ^ n := by
  have key : ∀ (s : List Int), (∀ x ∈ s, 0 ≤ x ∧ x < (n : Int)) → ∀ a : Nat, a < 2 ^ n → s.foldl (fun m n => m ||| 2 ^ n.toNat) a < 2 ^ n := by
    intro s
    induction s with
    | nil => intro _ a h; simpa
    | cons x r ih =>
      intro h a ha
      rw [List.foldl_cons]
      refine ih (fun y hy => h y (List.mem_cons_of_mem _ hy)) _ (Nat.or_lt_two_pow ha ?_)
      obtain ⟨h1, h2⟩ := h x (by simp)
      exact Nat.pow_lt_pow_right (by omega) (by omega)
  exact key rows h 0 (Nat.one_le_two_pow)
theorem rows_sz {rows : List Int} (hs : isSetB rows = true) (h : ∀ x ∈ rows, 0 ≤ x ∧ x < 10) : szK (maskM rows) = rows.length := by
  unfold szK
  rw [nums_maskK hs h]
/-- A row that alone meets some goal is in each cover. -/
theorem ess_in {s : List Nat} (hl : s.length ≤ 8) {S r : Nat} (hr : r < s.length) (he : essB s r = true) (hc : covB s S = true) : S.testBit r = true := by
  cases hb : S.testBit r
  · exfalso
    unfold essB at he
    rw [Bool.not_eq_true'] at he
    have : covB s (difK (fullM s) (2 ^ r)) = true := covB_iff.2 fun g hg => by
      obtain ⟨q, h1, h2, h3⟩ := metM_bit.1 (covB_iff.1 hc g hg)
      refine metM_bit.2 ⟨q, h1, ?_, h3⟩
      rw [difK_bit, full_bit, decide_eq_true h1, Nat.testBit_two_pow, decide_eq_false (fun e => by rw [e] at hb; rw [hb] at h2; cases h2)]
      rfl
    rw [this] at he
    cases he
  · rfl
theorem plc_mem {bs : List Bool} {x : Int} : x ∈ plc bs ↔ ∃ i : Nat, x = (i : Int) ∧ i < bs.length ∧ bs.getD i false = true := by
  unfold plc plcTo
  simp only [List.mem_map, List.mem_filter, List.mem_range]
  constructor
  · rintro ⟨n, ⟨h1, h2⟩, rfl⟩; exact ⟨n, rfl, h1, h2⟩
  · rintro ⟨n, rfl, h1, h2⟩; exact ⟨n, ⟨h1, h2⟩, rfl⟩
theorem plcR_mem {p : Nat → Bool} {n : Nat} {x : Int} : x ∈ plc ((List.range n).map p) ↔ ∃ i : Nat, x = (i : Int) ∧ i < n ∧ p i = true := by
  rw [plc_mem]
  constructor
  · rintro ⟨i, h1, h2, h3⟩
    rw [List.length_map, List.length_range] at h2
    exact ⟨i, h1, h2, by simpa [List.getD_eq_getElem?_getD, h2] using h3⟩
  · rintro ⟨i, h1, h2, h3⟩
    exact ⟨i, h1, by simpa using h2, by simp [List.getD_eq_getElem?_getD, h2, h3]⟩
theorem plcR_len (p : Nat → Bool) (n : Nat) : (plc ((List.range n).map p)).length ≤ n := by
  have := plcTo_length ((List.range n).map p) ((List.range n).map p).length
  unfold plc
  simpa using this
/-- All that SuiteChecks asks. -/
theorem chk_facts {t : List (List Int)} {rows : List Int} (h : vsr t rows = 0) (hc : covB (tblM t) (maskM rows) = true) : (∀ x ∈ essL (tblM t), x ∈ rows) ∧ (numsK (covM (tblM t))).length ≤ rows.length := by
  obtain ⟨h1, h2, h3⟩ := vsr_ok h
  have h8 := (vsu_ok h1).1
  have hl : (tblM t).length ≤ 8 := by rw [tblM_len]; exact h8
  refine ⟨fun x hx => ?_, ?_⟩
  · obtain ⟨i, rfl, hi, he⟩ := plcR_mem.1 hx
    have := ess_in hl hi he hc
    exact (maskM_has (fun x hx => (h3 x hx).1) i).1 this
  · have := covM_min hl (S := maskM rows) (by rw [tblM_len]; exact maskM_two h8 h3) hc
    rw [rows_sz h2 (fun x hx => by have := h3 x hx; omega)] at this
    exact this
end Tinker

/- Plain mathematics: the first best set, searched in two ways; goals that exclude each other are no more than rows of a cover. -/
set_option linter.unusedVariables false
set_option linter.unusedSimpArgs false
namespace Tinker
/-- x is better than y: by the key, then by the order of lists. -/
def betB (key : Nat → Nat) (x y : Nat) : Bool := decide (key x < key y) || (key x == key y && befB (numsK x) (numsK y))
/-- b is the best of those for which P holds. -/
def IsBst (key : Nat → Nat) (P : Nat → Prop) (b : Nat) : Prop := P b ∧ ∀ x, P x → x ≠ b → betB key b x = true
theorem betB_asym {key : Nat → Nat} {x y : Nat} (h : betB key x y = true) : betB key y x = false := by
  unfold betB at *
  rw [Bool.or_eq_true, Bool.and_eq_true, beq_iff_eq, decide_eq_true_eq] at h
  rw [Bool.eq_false_iff]
  intro h2
  rw [Bool.or_eq_true, Bool.and_eq_true, beq_iff_eq, decide_eq_true_eq] at h2
  rcases h with h | h
  · rcases h2 with h2 | h2
    · omega
    · omega
  · rcases h2 with h2 | h2
    · omega
    · exact befB_asym h.2 h2.2
theorem bst_one {key : Nat → Nat} {P : Nat → Prop} {a b : Nat} (h : IsBst key P a) (k : IsBst key P b) : a = b := by
  rcases Classical.em (a = b) with e | e
  · exact e
  · have h1 := h.2 b k.1 (fun e2 => e e2.symm)
    have h2 := k.2 a h.1 e
    rw [betB_asym h1] at h2
    cases h2
theorem betB_total {key : Nat → Nat} {x y : Nat} (hx : x < 1024) (hy : y < 1024) (hne : x ≠ y) (h : betB key x y = false) : betB key y x = true := by
  unfold betB at *
  rw [Bool.or_eq_false_iff, decide_eq_false_iff_not] at h
  rw [Bool.or_eq_true, Bool.and_eq_true, beq_iff_eq, decide_eq_true_eq]
  rcases Nat.lt_or_ge (key y) (key x) with h1 | h1
  · exact .inl h1
  · have e : key x = key y := by omega
    right
    refine ⟨e.symm, ?_⟩
    have h2 := h.2
    rw [e] at h2
    simp only [BEq.rfl, Bool.true_and] at h2
    rcases befB_total (a := numsK x) (b := numsK y) (fun e2 => hne (numsK_inj hx hy e2)) with h3 | h3
    · rw [h3] at h2; cases h2
    · exact h3
theorem betB_trans {key : Nat → Nat} {x y z : Nat} (h : betB key x y = true) (k : betB key y z = true) : betB key x z = true := by
  unfold betB at *
  rw [Bool.or_eq_true, Bool.and_eq_true, beq_iff_eq, decide_eq_true_eq] at *
  rcases h with h | h
  · rcases k with k | k
    · left; omega
    · left; omega
  · rcases k with k | k
    · left; omega
    · exact .inr ⟨by omega, befB_trans h.2 k.2⟩
/-- The first best one of a list in order is the best. -/
theorem bst_fold {key : Nat → Nat} : ∀ (r : List Nat) (x : Nat), (x :: r).Pairwise (fun a b => befB (numsK a) (numsK b) = true) →
    IsBst key (· ∈ x :: r) (r.foldl (fun m y => if decide (key y < key m) then y else m) x)
  | [], x, _ => ⟨by simp, fun y hy hne => absurd (by simpa using hy) hne⟩
  | y :: r, x, h => by
    rw [List.foldl_cons]
    have h0 := h
    rw [List.pairwise_cons, List.pairwise_cons] at h
    obtain ⟨hx, hy, hr⟩ := h
    by_cases hk : key y < key x
    · rw [decide_eq_true hk, if_pos rfl]
      have ih := bst_fold (key := key) r y (List.pairwise_cons.2 ⟨hy, hr⟩)
      refine ⟨List.mem_cons_of_mem _ ih.1, fun z hz hne => ?_⟩
      rcases List.mem_cons.1 hz with e | e
      · subst e
        generalize hm : r.foldl (fun m y => if decide (key y < key m) then y else m) y = m at *
        rcases Classical.em (y = m) with e2 | e2
        · subst e2; unfold betB; rw [decide_eq_true hk]; rfl
        · have h1 := ih.2 y (by simp) e2
          have h3 : betB key y z = true := by unfold betB; rw [decide_eq_true hk]; rfl
          exact betB_trans h1 h3
      · exact ih.2 z e hne
    · rw [decide_eq_false hk, if_neg (by decide)]
      have ih := bst_fold (key := key) r x (List.pairwise_cons.2 ⟨fun z hz => hx z (List.mem_cons_of_mem _ hz), hr⟩)
      refine ⟨?_, fun z hz hne => ?_⟩
      · rcases List.mem_cons.1 ih.1 with e | e
        · rw [e]; simp
        · exact List.mem_cons_of_mem _ (List.mem_cons_of_mem _ e)
      · rcases List.mem_cons.1 hz with e | e
        · exact ih.2 z (by rw [e]; simp) hne
        · rcases List.mem_cons.1 e with e | e
          · subst e
            have hxz : betB key x z = true := by
              unfold betB
              rw [Bool.or_eq_true, Bool.and_eq_true, beq_iff_eq, decide_eq_true_eq]
              rcases Nat.lt_or_ge (key x) (key z) with h1 | h1
              · exact .inl h1
              · exact .inr ⟨by omega, hx z (by simp)⟩
            rcases Classical.em (x = r.foldl (fun m y => if decide (key y < key m) then y else m) x) with e2 | e2
            · rw [← e2]; exact hxz
            · exact betB_trans (ih.2 x (by simp) e2) hxz
          · exact ih.2 z (List.mem_cons_of_mem _ e) hne
theorem bst_bestF {key : Nat → Nat} {l : List Nat} (hne : l ≠ []) (h : l.Pairwise (fun a b => befB (numsK a) (numsK b) = true)) : IsBst key (· ∈ l) (bestF (fun y m => decide (key y < key m)) l) := by
  cases l with
  | nil => exact absurd rfl hne
  | cons x r => exact bst_fold r x h
set_option maxRecDepth 1000000 in
theorem enumK_adj : (List.range 11).all (fun n => adjB ((enumK n).map numsK)) = true := by decide +kernel
theorem enumK_srt {n : Nat} (hn : n ≤ 10) : (enumK n).Pairwise (fun a b => befB (numsK a) (numsK b) = true) := by
  have := adj_pair (List.all_eq_true.1 enumK_adj n (List.mem_range.2 (by omega)))
  rwa [List.pairwise_map] at this
theorem tlK_all {N : Nat} : ∀ (d S m : Nat), d ≤ N → m < 2 ^ (N - d) → S < 2 ^ N → (∀ i, i < N - d → S.testBit i = m.testBit i) → S = m ∨ S ∈ tlK N d m
  | 0, S, m, hd, hm, hS, h => .inl (Nat.eq_of_testBit_eq fun i => by
      rcases Nat.lt_or_ge i N with h1 | h1
      · exact h i (by omega)
      · have e : 2 ^ N ≤ 2 ^ i := Nat.pow_le_pow_right (by omega) h1
        rw [Nat.testBit_lt_two_pow (by omega), Nat.testBit_lt_two_pow (Nat.lt_of_lt_of_le hm (by simpa using e))])
  | d + 1, S, m, hd, hm, hS, h => by
    have e1 : N - d = (N - (d + 1)) + 1 := by omega
    have hp : 2 ^ (N - d) = 2 ^ (N - (d + 1)) * 2 := by rw [e1, Nat.pow_succ]
    cases hb : S.testBit (N - (d + 1))
    · rcases tlK_all d S m (by omega) (by omega) hS (fun i hi => by
        rcases Nat.lt_or_ge i (N - (d + 1)) with h1 | h1
        · exact h i h1
        · obtain rfl : i = N - (d + 1) := by omega
          rw [hb, Nat.testBit_lt_two_pow hm]) with h1 | h1
      · exact .inl h1
      · exact .inr (by rw [tlK]; exact List.mem_append_right _ h1)
    · rcases tlK_all d S (m ||| 2 ^ (N - (d + 1))) (by omega) (by rw [e1]; exact Nat.or_lt_two_pow (by rw [Nat.pow_succ]; omega) (Nat.pow_lt_pow_right (by omega) (by omega))) hS (fun i hi => by
        rw [Nat.testBit_or, Nat.testBit_two_pow]
        rcases Nat.lt_or_ge i (N - (d + 1)) with h1 | h1
        · rw [h i h1, decide_eq_false (by omega), Bool.or_false]
        · obtain rfl : i = N - (d + 1) := by omega
          rw [hb]; simp) with h1 | h1
      · exact .inr (by rw [tlK, h1]; simp)
      · exact .inr (by rw [tlK]; exact List.mem_append_left _ (List.mem_cons_of_mem _ h1))
theorem tlK_bound {N : Nat} : ∀ (d m : Nat), d ≤ N → m < 2 ^ N → ∀ x ∈ tlK N d m, x < 2 ^ N
  | 0, _, _, _ => fun x hx => by simp [tlK] at hx
  | d + 1, m, hd, hm => fun x hx => by
    have hm2 : m ||| 2 ^ (N - (d + 1)) < 2 ^ N := Nat.or_lt_two_pow hm (Nat.pow_lt_pow_right (by omega) (by omega))
    rw [tlK, List.mem_append, List.mem_cons] at hx
    rcases hx with (h | h) | h
    · subst h; exact hm2
    · exact tlK_bound d _ (by omega) hm2 x h
    · exact tlK_bound d m (by omega) hm x h
theorem enumK_mem {n S : Nat} : S ∈ enumK n ↔ S < 2 ^ n := by
  constructor
  · intro h
    unfold enumK at h
    rcases List.mem_cons.1 h with e | e
    · rw [e]; exact Nat.one_le_two_pow
    · exact tlK_bound n 0 (Nat.le_refl _) Nat.one_le_two_pow S e
  · intro h
    unfold enumK
    rcases tlK_all (N := n) n S 0 (Nat.le_refl _) (by simp) h (fun i hi => by omega) with e | e
    · rw [e]; simp
    · exact List.mem_cons_of_mem _ e
/-- The search through all numbers: what is best below k. -/
def bstT (key : Nat → Nat) (P : Nat → Bool) : Nat → Option Nat
  | 0 => none
  | k + 1 => if P k then (match bstT key P k with | none => some k | some m => if betB key k m then some k else some m) else bstT key P k
theorem bstT_some {key : Nat → Nat} {P : Nat → Bool} : ∀ {k : Nat}, k ≤ 1024 → (bstT key P k = none ∧ ∀ x, x < k → P x = false) ∨ ∃ b, bstT key P k = some b ∧ IsBst key (fun x => x < k ∧ P x = true) b
  | 0, _ => .inl ⟨rfl, fun x hx => by omega⟩
  | k + 1, hk => by
    rw [bstT]
    cases hP : P k
    · rw [if_neg (by decide)]
      rcases bstT_some (key := key) (P := P) (k := k) (by omega) with ⟨h1, h2⟩ | ⟨b, h1, h2⟩
      · refine .inl ⟨h1, fun x hx => ?_⟩
        rcases Nat.lt_or_ge x k with h | h
        · exact h2 x h
        · obtain rfl : x = k := by omega
          exact hP
      · refine .inr ⟨b, h1, ⟨by have := h2.1.1; omega, h2.1.2⟩, fun x hx hne => h2.2 x ⟨?_, hx.2⟩ hne⟩
        rcases Nat.lt_or_ge x k with h | h
        · exact h
        · obtain rfl : x = k := by omega
          have hx2 := hx.2
          rw [hP] at hx2; cases hx2
    · rw [if_pos rfl]
      rcases bstT_some (key := key) (P := P) (k := k) (by omega) with ⟨h1, h2⟩ | ⟨b, h1, h2⟩
      · rw [h1]
        refine .inr ⟨k, rfl, ⟨by omega, hP⟩, fun x hx hne => ?_⟩
        have := h2 x (by have := hx.1; omega)
        have hx2 := hx.2
        rw [this] at hx2; cases hx2
      · rw [h1]
        have hbk := h2.1.1
        cases hb : betB key k b
        · refine .inr ⟨b, by simp [hb], ⟨by omega, h2.1.2⟩, fun x hx hne => ?_⟩
          rcases Nat.lt_or_ge x k with h | h
          · exact h2.2 x ⟨h, hx.2⟩ hne
          · obtain rfl : x = k := by omega
            exact betB_total (by omega) (by omega) hne hb
        · refine .inr ⟨k, by simp [hb], ⟨by omega, hP⟩, fun x hx hne => ?_⟩
          rcases Classical.em (x = b) with e | e
          · rw [e]; exact hb
          · exact betB_trans hb (h2.2 x ⟨by omega, hx.2⟩ e)
theorem bst_ext {key : Nat → Nat} {P Q : Nat → Prop} {b : Nat} (h : IsBst key P b) (e : ∀ x, P x ↔ Q x) : IsBst key Q b := ⟨(e b).1 h.1, fun x hx hne => h.2 x ((e x).2 hx) hne⟩

set_option maxRecDepth 100000 in
theorem comb_adj8 : ∀ n, n < 9 → ∀ m, m < 9 → adjB ((combT n n m 0).map numsK) = true := by decide +kernel
theorem find_bst {P : Nat → Bool} : ∀ {l : List Nat} {b : Nat}, l.Pairwise (fun a b => befB (numsK a) (numsK b) = true) → l.find? P = some b → ∀ x ∈ l, P x = true → x ≠ b → befB (numsK b) (numsK x) = true
  | [], b, _, hf => by cases hf
  | a :: r, b, h, hf => by
    rw [List.pairwise_cons] at h
    cases hP : P a with
    | true =>
      rw [List.find?_cons_of_pos hP] at hf
      injection hf with e
      subst e
      intro x hx _ hne
      rcases List.mem_cons.1 hx with e | e
      · exact absurd e hne
      · exact h.1 x e
    | false =>
      rw [List.find?_cons_of_neg (by rw [hP]; decide)] at hf
      intro x hx hx2 hne
      rcases List.mem_cons.1 hx with e | e
      · rw [e, hP] at hx2; cases hx2
      · exact find_bst h.2 hf x e hx2 hne
theorem covM_bst {s : List Nat} (hl : s.length ≤ 8) : IsBst szK (fun x => x < 2 ^ s.length ∧ covB s x = true) (covM s) := by
  refine ⟨⟨covM_lt hl, covM_cov hl⟩, fun x hx hne => ?_⟩
  have hmin := covM_min hl hx.1 hx.2
  unfold betB
  rw [Bool.or_eq_true, Bool.and_eq_true, beq_iff_eq, decide_eq_true_eq]
  rcases Nat.lt_or_ge (szK (covM s)) (szK x) with h | h
  · exact .inl h
  · have e : szK (covM s) = szK x := by omega
    refine .inr ⟨e, ?_⟩
    obtain ⟨m, h1, h2, h3⟩ := covM_at hl
    have e1 := List.all_eq_true.1 (comb_sz8 s.length (by omega) m (by omega)) _ (List.mem_of_find?_eq_some h3)
    have e2 : szK (covM s) = m := by simpa using e1
    have e3 := List.all_eq_true.1 (comb_mem8 s.length (by omega)) x (List.mem_range.2 hx.1)
    have e4 : x ∈ combT s.length s.length m 0 := by rw [← e2, e]; simpa using e3
    have hp := adj_pair (comb_adj8 s.length (by omega) m (by omega))
    rw [List.pairwise_map] at hp
    exact find_bst hp h3 x e4 hx.2 hne
/-- The greatest set of goals that exclude each other is the best by size. -/
theorem excM_bst {s : List Nat} {n : Nat} (hn : n ≤ 10) : IsBst (fun x => 10 - szK x) (fun x => x < 2 ^ n ∧ excB s x = true) (excM s n) := by
  have h := bst_bestF (key := fun x => 10 - szK x) (exc_ne s n) ((enumK_srt hn).filter (excB s))
  have e : (fun y m => decide (10 - szK y < 10 - szK m)) = grtB := by
    funext y m
    unfold grtB
    have := szK_le y
    have := szK_le m
    rw [decide_eq_decide]
    omega
  rw [e] at h
  exact bst_ext h fun x => by rw [List.mem_filter, enumK_mem]
theorem exc_cov {s : List Nat} {G S : Nat} (hl : s.length ≤ 10) (hG : excB s G = true) (hS : covB s S = true) : szK G ≤ szK S := by
  unfold excB at hG
  rw [Bool.and_eq_true, beq_iff_eq, difK_zero, Bool.not_eq_true', List.any_eq_false] at hG
  obtain ⟨h1, h2⟩ := hG
  have hr : ∀ g : Int, ∃ r : Int, g ∈ numsK G → r ∈ numsK S ∧ (s.getD r.toNat 0).testBit g.toNat = true := fun g => by
    by_cases hg : g ∈ numsK G
    · obtain ⟨n, rfl, hn1, hn2⟩ := numsK_mem.1 hg
      obtain ⟨r, q1, q2, q3⟩ := metM_bit.1 (covB_iff.1 hS n (h1 n hn2))
      exact ⟨r, fun _ => ⟨numsK_memN.2 ⟨by omega, q2⟩, q3⟩⟩
    · exact ⟨0, fun h => absurd h hg⟩
  obtain ⟨f, hf⟩ := Classical.axiomOfChoice hr
  have hnd : ((numsK G).map f).Nodup := by
    rw [List.Nodup, List.pairwise_map]
    refine List.Pairwise.imp_of_mem (fun {a b} ha hb hab e => ?_) (numsK_pair G)
    have q1 := hf a ha
    have q2 := hf b hb
    rw [← e] at q2
    obtain ⟨na, ea, a1, a2⟩ := numsK_mem.1 ha
    obtain ⟨nb, eb, b1, b2⟩ := numsK_mem.1 hb
    have hlt : (f a).toNat < s.length := by
      rcases Nat.lt_or_ge (f a).toNat s.length with h | h
      · exact h
      · have := q1.2
        rw [List.getD_eq_getElem?_getD, List.getElem?_eq_none h, Option.getD_none, Nat.zero_testBit] at this
        cases this
    have hm : s.getD (f a).toNat 0 ∈ s := by
      rw [List.getD_eq_getElem?_getD, List.getElem?_eq_getElem hlt]
      exact List.getElem_mem hlt
    have hz := h2 _ hm
    have hz2 : ¬ 1 < szK (s.getD (f a).toNat 0 &&& G) := by simpa [twoB] using hz
    generalize s.getD (f a).toNat 0 = row at *
    have : 2 ≤ szK (row &&& G) := by
      have hsub : ∀ y ∈ [a, b], y ∈ numsK (row &&& G) := by
        intro y hy
        rcases List.mem_cons.1 hy with e | e
        · rw [e, ea]
          exact numsK_memN.2 ⟨a1, by rw [Nat.testBit_and, a2]; have := q1.2; rw [ea] at this; simpa using this⟩
        · rw [List.mem_singleton.1 e, eb]
          exact numsK_memN.2 ⟨b1, by rw [Nat.testBit_and, b2]; have := q2.2; rw [eb] at this; simpa using this⟩
      have := nodup_lenI (l := [a, b]) (k := numsK (row &&& G)) (by simp; omega) hsub
      simpa [szK] using this
    omega
  have := nodup_lenI hnd (k := numsK S) (fun y hy => by
    obtain ⟨g, hg, rfl⟩ := List.mem_map.1 hy
    exact (hf g hg).1)
  simpa [szK] using this
end Tinker
