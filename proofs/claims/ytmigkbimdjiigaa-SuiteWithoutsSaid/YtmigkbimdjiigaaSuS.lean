/- Plain mathematics: the smallest cover. -/
import Derived.Test.YtmigkbimdjiigaaSuG
set_option linter.unusedVariables false
set_option linter.unusedSimpArgs false
namespace Tinker
set_option maxRecDepth 100000 in
theorem comb_mem8 : ∀ n, n < 9 → (List.range (2 ^ n)).all (fun S => (combT n n (szK S) 0).contains S) = true := by decide +kernel
set_option maxRecDepth 100000 in
theorem comb_sz8 : ∀ n, n < 9 → ∀ m, m < 9 → (combT n n m 0).all (fun x => szK x == m) = true := by decide +kernel
theorem covF_none {s : List Nat} : ∀ {k : Nat}, covF s k = none → ∀ m, m < k → (combT s.length s.length m 0).find? (covB s) = none
  | 0, _, _, h => absurd h (Nat.not_lt_zero _)
  | k + 1, h, m, hm => by
    rw [covF_succ] at h
    cases hc : covF s k with
    | some c => rw [hc] at h; cases h
    | none =>
      rw [hc] at h
      rcases Nat.lt_or_ge m k with h1 | h1
      · exact covF_none hc m h1
      · obtain rfl : m = k := by omega
        exact h
/-- The cover is found at its size, and no smaller set is one. -/
theorem covM_at {s : List Nat} (hl : s.length ≤ 8) : ∃ m, m ≤ s.length ∧ covF s m = none ∧ (combT s.length s.length m 0).find? (covB s) = some (covM s) := by
  have key : ∀ k, k ≤ s.length + 1 → (covF s k = none ∨ ∃ m, m < k ∧ covF s m = none ∧ (combT s.length s.length m 0).find? (covB s) = some (covM s)) := by
    intro k
    induction k with
    | zero => intro _; exact .inl rfl
    | succ k ih =>
      intro hk
      rcases ih (by omega) with h | ⟨m, h1, h2, h3⟩
      · cases hf : (combT s.length s.length k 0).find? (covB s) with
        | none => left; rw [covF_succ, h, hf]; rfl
        | some c =>
          right
          have := covM_of (by omega) h hf
          exact ⟨k, by omega, h, by rw [this]; exact hf⟩
      · exact .inr ⟨m, by omega, h2, h3⟩
  rcases key (s.length + 1) (Nat.le_refl _) with h | ⟨m, h1, h2, h3⟩
  · obtain ⟨c, hc⟩ := covF_some hl
    rw [h] at hc; cases hc
  · exact ⟨m, by omega, h2, h3⟩
theorem covM_min {s : List Nat} (hl : s.length ≤ 8) {S : Nat} (hS : S < 2 ^ s.length) (hc : covB s S = true) : szK (covM s) ≤ szK S := by
  obtain ⟨m, h1, h2, h3⟩ := covM_at hl
  have e1 := List.all_eq_true.1 (comb_sz8 s.length (by omega) m (by omega)) _ (List.mem_of_find?_eq_some h3)
  have e2 : szK (covM s) = m := by simpa using e1
  have e3 := List.all_eq_true.1 (comb_mem8 s.length (by omega)) S (List.mem_range.2 hS)
  rcases Nat.lt_or_ge (szK S) m with h | h
  · exfalso
    have := covF_none h2 _ h
    rw [List.find?_eq_none] at this
    exact this S (by simpa using e3) hc
  · omega
/-- What rows in range are as a mask. -/
theorem maskM_two {rows : List Int} {n : Nat} (hn : n ≤ 8) (h : ∀ x ∈ rows, 0 ≤ x ∧ x < (n : Int)) : maskM rows < 2 ^ n := by
  have key : ∀ (s : List Int), (∀ x ∈ s, 0 ≤ x ∧ x < (n : Int)) → ∀ a : Nat, a < 2 ^ n → s.foldl (fun m n => m ||| 2 ^ n.toNat) a < 2 ^ n := by
    intro s
    induction s with
    | nil => intro _ a h; simpa
    | cons x r ih =>
      intro h a ha
      rw [List.foldl_cons]
      refine ih (fun y hy => h y (List.mem_cons_of_mem _ hy)) _ (Nat.or_lt_two_pow ha ?_)
      obtain ⟨h1, h2⟩ := h x (by simp)
      exact Nat.pow_lt_pow_right (by omega) (by omega)
  exact key rows h 0 (Nat.one_le_two_pow)
theorem rows_sz {rows : List Int} (hs : isSetB rows = true) (h : ∀ x ∈ rows, 0 ≤ x ∧ x < 10) : szK (maskM rows) = rows.length := by
  unfold szK
  rw [nums_maskK hs h]
/-- A row that alone meets some goal is in each cover. -/
theorem ess_in {s : List Nat} (hl : s.length ≤ 8) {S r : Nat} (hr : r < s.length) (he : essB s r = true) (hc : covB s S = true) : S.testBit r = true := by
  cases hb : S.testBit r
  · exfalso
    unfold essB at he
    rw [Bool.not_eq_true'] at he
    have : covB s (difK (fullM s) (2 ^ r)) = true := covB_iff.2 fun g hg => by
      obtain ⟨q, h1, h2, h3⟩ := metM_bit.1 (covB_iff.1 hc g hg)
      refine metM_bit.2 ⟨q, h1, ?_, h3⟩
      rw [difK_bit, full_bit, decide_eq_true h1, Nat.testBit_two_pow, decide_eq_false (fun e => by rw [e] at hb; rw [hb] at h2; cases h2)]
      rfl
    rw [this] at he
    cases he
  · rfl
theorem plc_mem {bs : List Bool} {x : Int} : x ∈ plc bs ↔ ∃ i : Nat, x = (i : Int) ∧ i < bs.length ∧ bs.getD i false = true := by
  unfold plc plcTo
  simp only [List.mem_map, List.mem_filter, List.mem_range]
  constructor
  · rintro ⟨n, ⟨h1, h2⟩, rfl⟩; exact ⟨n, rfl, h1, h2⟩
  · rintro ⟨n, rfl, h1, h2⟩; exact ⟨n, ⟨h1, h2⟩, rfl⟩
theorem plcR_mem {p : Nat → Bool} {n : Nat} {x : Int} : x ∈ plc ((List.range n).map p) ↔ ∃ i : Nat, x = (i : Int) ∧ i < n ∧ p i = true := by
  rw [plc_mem]
  constructor
  · rintro ⟨i, h1, h2, h3⟩
    rw [List.length_map, List.length_range] at h2
    exact ⟨i, h1, h2, by simpa [List.getD_eq_getElem?_getD, h2] using h3⟩
  · rintro ⟨i, h1, h2, h3⟩
    exact ⟨i, h1, by simpa using h2, by simp [List.getD_eq_getElem?_getD, h2, h3]⟩
theorem plcR_len (p : Nat → Bool) (n : Nat) : (plc ((List.range n).map p)).length ≤ n := by
  have := plcTo_length ((List.range n).map p) ((List.range n).map p).length
  unfold plc
  simpa using this
/-- All that SuiteChecks asks. -/
theorem chk_facts {t : List (List Int)} {rows : List Int} (h : vsr t rows = 0) (hc : covB (tblM t) (maskM rows) = true) : (∀ x ∈ essL (tblM t), x ∈ rows) ∧ (numsK (covM (tblM t))).length ≤ rows.length := by
  obtain ⟨h1, h2, h3⟩ := vsr_ok h
  have h8 := (vsu_ok h1).1
  have hl : (tblM t).length ≤ 8 := by rw [tblM_len]; exact h8
  refine ⟨fun x hx => ?_, ?_⟩
  · obtain ⟨i, rfl, hi, he⟩ := plcR_mem.1 hx
    have := ess_in hl hi he hc
    exact (maskM_has (fun x hx => (h3 x hx).1) i).1 this
  · have := covM_min hl (S := maskM rows) (by rw [tblM_len]; exact maskM_two h8 h3) hc
    rw [rows_sz h2 (fun x hx => by have := h3 x hx; omega)] at this
    exact this
end Tinker
