/- Plain mathematics, eighth part: what lines outside a slice write does not change its register. -/
import Derived.Test.YtmideaancmpafaaPlain7
set_option linter.unusedVariables false
set_option linter.unusedSimpArgs false
namespace Tinker

theorem orTo_get (a m : List Bool) (k : Nat) (hk : k < m.length) : ∀ n, (orTo a m n).getD k false = (m.getD k false || (decide (k < n) && a.getD k false))
  | 0 => by simp [orTo]
  | n + 1 => by
    unfold orTo
    have hl := orTo_length a m n
    have ih := orTo_get a m k hk n
    split
    · rename_i h
      rw [getD_set_gen, ih]
      by_cases e : n = k
      · subst e; rw [if_pos ⟨rfl, by omega⟩, h]; simp
      · rw [if_neg (fun x => e x.1)]
        have : decide (k < n + 1) = decide (k < n) := by simp; omega
        rw [this]
    · rename_i h
      rw [ih]
      by_cases e : n = k
      · subst e
        rw [Bool.not_eq_true] at h
        rw [h]; simp
      · have : decide (k < n + 1) = decide (k < n) := by simp; omega
        rw [this]
where
  getD_set_gen {l : List Bool} {i j : Nat} : (l.set i true).getD j false = if i = j ∧ i < l.length then true else l.getD j false := by
    by_cases h : i < l.length
    · rw [getD_set _ _ _ _ _ h]; simp [h]
    · rw [List.set_eq_of_length_le (by omega), if_neg (fun e => h e.2)]
theorem matB_get (l : L) (m : List Bool) (hm : m.length = 4) (k : Nat) (hk : k < 4) : (matB l m).getD k false = ((if wr l then m.set l.to.toNat false else m).getD k false || (rd l).getD k false) := by
  unfold matB
  have hl : k < (if wr l then m.set l.to.toNat false else m).length := by
    split
    · rw [List.length_set]; omega
    · omega
  rw [orTo_get _ _ _ hl]
  simp [hk]
theorem rd_a {l : L} (h : isLn l = true) (h2 : 2 ≤ l.op) : (rd l).getD l.a.toNat false = true := by
  have ha := isLn_a h h2
  unfold rd
  simp only
  rw [if_pos h2]
  have : ([false, false, false, false].set l.a.toNat true).getD l.a.toNat false = true := by rw [getD_set _ _ _ _ _ (by simp; omega), if_pos rfl]
  split
  · by_cases e : l.b.toNat = l.a.toNat
    · have hb := isLn_b h (by assumption)
      rw [getD_set _ _ _ _ _ (by simp; omega), if_pos e]
    · rw [getD_set_ne _ _ _ e]; exact this
  · exact this
theorem rd_b {l : L} (h : isLn l = true) (h3 : 3 ≤ l.op) : (rd l).getD l.b.toNat false = true := by
  have hb := isLn_b h h3
  unfold rd
  simp only
  rw [if_pos h3, getD_set _ _ _ _ _ (by split <;> simp <;> omega), if_pos rfl]
/-- Two states agree on what a line reads. -/
def agr (m : List Bool) (s t : List Int) : Prop := ∀ k, m.getD k false = true → s.getD k 0 = t.getD k 0
theorem val_agr {l : L} {s t : List Int} (h : isLn l = true) (hw : wr l = true) (ha : agr (rd l) s t) : Tinker.valOf l s = Tinker.valOf l t := by
  unfold Tinker.valOf
  have h7 := isLn_op h
  have h0 : l.op ≠ 0 := by simp [wr] at hw; exact hw.1
  have ra : 2 ≤ l.op → rg s l.a = rg t l.a := fun h2 => ha _ (rd_a h h2)
  have rb : 3 ≤ l.op → rg s l.b = rg t l.b := fun h3 => ha _ (rd_b h h3)
  by_cases e1 : l.op = 1
  · rw [if_pos e1, if_pos e1]
  · rw [if_neg e1, if_neg e1]
    by_cases e2 : l.op = 2
    · rw [if_pos e2, if_pos e2]; exact ra (by omega)
    · rw [if_neg e2, if_neg e2, ra (by omega), rb (by omega)]
theorem skips_agr {l : L} {s t : List Int} (h : isLn l = true) (ha : agr (rd l) s t) : skips l s = skips l t := by
  unfold skips
  by_cases e : l.op = 7
  · have ra : rg s l.a = rg t l.a := ha _ (rd_a h (by omega))
    have rb : rg s l.b = rg t l.b := ha _ (rd_b h (by omega))
    rw [ra, rb]
  · have : (l.op == 7) = false := by simpa using e
    rw [this]; rfl
theorem skips_no {l : L} {s : List Int} (h : l.op ≠ 7) : skips l s = false := by
  unfold skips
  have : (l.op == 7) = false := by simpa using h
  rw [this]; rfl
theorem wr_op8 {l : L} : wr l = true ↔ l.op ≠ 0 ∧ l.op ≠ 7 := by simp [wr]

theorem outside {p : List L} {f : Nat → Option Int} {r : Nat} (hv : ∀ l ∈ p, isLn l = true) (hr : r < 4) : ∀ (n i : Nat) (s t : List Int), p.length - i ≤ n → s.length = 4 → t.length = 4 →
    agr ((tr p noF i s).1.foldr (stR p) (slR0 p.length r)).1 s t →
    (∀ j, ((tr p noF i s).1.foldr (stR p) (slR0 p.length r)).2.getD j false = true → f j = none) →
    (tr p noF i s).2.getD r 0 = (tr p f i t).2.getD r 0
  | n, i, s, t, hn, hs, ht, ha, hf => by
    rcases Nat.lt_or_ge i p.length with hi | hi
    · match n, hn with
      | 0, hn => omega
      | n + 1, hn =>
      obtain ⟨l, hl⟩ := get_of_lt hi
      have hli := hv l (mem_of_get hl)
      have hpl : p.getD i ⟨0, 0, 0, 0⟩ = l := getD_of_get hl
      have hg := nxt_gt l s i
      have hmem : ∀ x ∈ (tr p noF (nxt l s i) (stp l s (noF i))).1, i < x.1 := fun x hx => by
        have := tr_from p noF _ _ _ (Nat.le_refl _) x hx; omega
      rw [tr_lt hl, List.foldr_cons] at ha hf
      rw [tr_lt hl, tr_lt hl]
      show (tr p noF (nxt l s i) (stp l s (noF i))).2.getD r 0 = (tr p f (nxt l t i) (stp l t (f i))).2.getD r 0
      have ih := outside (f := f) hv hr n (nxt l s i) (stp l s (noF i)) (stp l t (f i)) (by omega) (by rw [stp_length, hs]) (by rw [stp_length, ht])
      have hBl : ∀ st : List (Nat × List Int), ((st.foldr (stR p) (slR0 p.length r)).1).length = 4 := fun st => by
        induction st with
        | nil => simp [slR0]
        | cons x q ihq =>
          rw [List.foldr_cons]; unfold stR; simp only
          split
          · simp only [matB_length]; exact ihq
          · exact ihq
      have hB4 := hBl (tr p noF (nxt l s i) (stp l s (noF i))).1
      have hB2 := foldrSR_length p (tr p noF (nxt l s i) (stp l s (noF i))).1 (slR0 p.length r)
      have hB2' : ((tr p noF (nxt l s i) (stp l s (noF i))).1.foldr (stR p) (slR0 p.length r)).2.length = p.length := by rw [hB2]; simp [slR0]
      generalize hB : (tr p noF (nxt l s i) (stp l s (noF i))).1.foldr (stR p) (slR0 p.length r) = B at ha hf ih hB4 hB2'
      clear hB hBl hB2
      have hrest : ∀ j, B.2.getD j false = true → (stR p (i, s) B).2.getD j false = true := fun j hj => by
        unfold stR; simp only
        split
        · simp only; rw [getD_set _ _ _ _ _ (by omega)]; split
          · rfl
          · exact hj
        · exact hj
      have hf' : ∀ j, B.2.getD j false = true → f j = none := fun j hj => hf j (hrest j hj)
      by_cases hc : (l.op == 7 || (wr l && B.1.getD l.to.toNat false)) = true
      · have e : stR p (i, s) B = (matB l B.1, B.2.set i true) := by unfold stR; simp only [hpl]; rw [if_pos hc]
        rw [e] at ha hf
        have hfi : f i = none := hf i (by simp only; rw [getD_set _ _ _ _ _ (by omega), if_pos rfl])
        have hk4 : ∀ (m : List Bool) k, m.length = 4 → m.getD k false = true → k < 4 := fun m k h1 h2 => by
          rcases Nat.lt_or_ge k 4 with h | h
          · exact h
          · rw [getD_ge (by omega)] at h2; cases h2
        have hrd : agr (rd l) s t := fun k hk => by
          have hk4 := hk4 _ k (rd_length l) hk
          refine ha k ?_
          simp only
          rw [matB_get _ _ hB4 _ hk4, hk]; simp
        have hsk : skips l t = skips l s := (skips_agr hli hrd).symm
        have hnx : nxt l t i = nxt l s i := by unfold nxt; rw [hsk]
        rw [hnx]
        refine ih ?_ hf'
        intro k hk
        have hkk := hk4 _ k hB4 hk
        have hs0 : noF i = none := rfl
        rw [hfi, hs0]
        by_cases hw : wr l = true
        · have hto := isLn_to hli (by have := wr_op8.1 hw; have := isLn_op hli; omega) (by have := wr_op8.1 hw; have := isLn_op hli; omega)
          unfold stp
          rw [hw, if_pos rfl, if_pos rfl, val_agr hli hw hrd, getD_set _ _ _ _ _ (by omega), getD_set _ _ _ _ _ (by omega)]
          split
          · rfl
          · rename_i hne
            refine ha k ?_
            simp only
            rw [matB_get _ _ hB4 _ hkk, if_pos hw, getD_set_ne _ _ _ hne, hk]; rfl
        · unfold stp
          rw [if_neg hw, if_neg hw]
          refine ha k ?_
          simp only
          rw [matB_get _ _ hB4 _ hkk, if_neg hw, hk]; rfl
      · have e : stR p (i, s) B = B := by unfold stR; simp only [hpl]; rw [if_neg hc]
        rw [e] at ha
        rw [Bool.not_eq_true, Bool.or_eq_false_iff] at hc
        have h7 : l.op ≠ 7 := by simpa using hc.1
        have hnx : nxt l t i = nxt l s i := by unfold nxt; rw [skips_no h7, skips_no h7]
        rw [hnx]
        refine ih ?_ hf'
        intro k hk
        by_cases hw : wr l = true
        · have hm : B.1.getD l.to.toNat false = false := by have := hc.2; rw [hw] at this; simpa using this
          have hne : l.to.toNat ≠ k := fun e => by rw [e, hk] at hm; cases hm
          unfold stp
          rw [hw, if_pos rfl, if_pos rfl, getD_set_ne _ _ _ hne, getD_set_ne _ _ _ hne]
          exact ha k hk
        · unfold stp
          rw [if_neg hw, if_neg hw]
          exact ha k hk
    · rw [tr_ge hi] at ha
      rw [tr_ge hi, tr_ge hi]
      refine ha r ?_
      show ([false, false, false, false].set r true).getD r false = true
      rw [getD_set _ _ _ _ _ (by simpa using hr), if_pos rfl]

end Tinker
