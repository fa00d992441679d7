/- Plain mathematics: the sets of numbers in the order in which the smallest are sought. -/
import Derived.Test.YtmigkbimdjiigaaMskB
set_option linter.unusedVariables false
set_option linter.unusedSimpArgs false
namespace Tinker

/-- All sets of numbers below n: each number behind all sets without it. -/
def chL : Nat → List (List Int)
  | 0 => [[]]
  | n + 1 => chL n ++ (chL n).map (· ++ [(n : Int)])
theorem ch_bits : ∀ n, n < 9 → chL n = (List.range (2 ^ n)).map numsM := by decide +kernel
theorem ch_len : ∀ n, (chL n).length = 2 ^ n
  | 0 => rfl
  | n + 1 => by rw [chL, List.length_append, List.length_map, ch_len n]; omega

/-- Fewer numbers first, those of a size in order. -/
def ltC (a b : List Int) : Bool := decide (a.length < b.length) || (decide (a.length = b.length) && befB a b)
theorem ltC_iff {a b : List Int} : ltC a b = true ↔ a.length < b.length ∨ a.length = b.length ∧ befB a b = true := by
  unfold ltC
  simp
theorem ltC_asym {a b : List Int} (h : ltC a b = true) : ltC b a = false := by
  cases h2 : ltC b a with
  | false => rfl
  | true =>
    rw [ltC_iff] at h h2
    rcases h with h | ⟨h, k⟩ <;> rcases h2 with h2 | ⟨h2, k2⟩
    · omega
    · omega
    · omega
    · exact absurd k2 (befB_asym k)
theorem ltC_irr (a : List Int) : ltC a a = false := by
  cases h : ltC a a with
  | false => rfl
  | true => exact (ltC_asym h).symm.trans h |>.symm ▸ rfl
theorem ltC_trans {a b c : List Int} (h : ltC a b = true) (k : ltC b c = true) : ltC a c = true := by
  rw [ltC_iff] at *
  rcases h with h | ⟨h, h1⟩ <;> rcases k with k | ⟨k, k1⟩
  · exact .inl (by omega)
  · exact .inl (by omega)
  · exact .inl (by omega)
  · exact .inr ⟨by omega, befB_trans h1 k1⟩
theorem ltC_total {a b : List Int} (h : ltC a b = false) (k : ltC b a = false) : a = b := by
  by_cases e : a = b
  · exact e
  · exfalso
    have h1 : ¬ ltC a b = true := by rw [h]; decide
    have k1 : ¬ ltC b a = true := by rw [k]; decide
    rw [ltC_iff] at h1 k1
    rcases befB_total e with x | x
    · by_cases hl : a.length < b.length
      · exact h1 (.inl hl)
      · by_cases hl2 : b.length < a.length
        · exact k1 (.inl hl2)
        · exact h1 (.inr ⟨by omega, x⟩)
    · by_cases hl : a.length < b.length
      · exact h1 (.inl hl)
      · by_cases hl2 : b.length < a.length
        · exact k1 (.inl hl2)
        · exact k1 (.inr ⟨by omega, x⟩)

/-- The best of a list: none is good, or one that no good one comes before. -/
def IsMinC (P : List Int → Bool) (l : List (List Int)) : Option (List Int) → Prop
  | none => ∀ x ∈ l, P x = false
  | some b => b ∈ l ∧ P b = true ∧ ∀ x ∈ l, P x = true → ltC x b = false
theorem minC_one {P : List Int → Bool} {l : List (List Int)} : ∀ {o p : Option (List Int)}, IsMinC P l o → IsMinC P l p → o = p
  | none, none, _, _ => rfl
  | none, some b, h, k => by have := h b k.1; rw [k.2.1] at this; exact absurd this (by decide)
  | some b, none, h, k => by have := k b h.1; rw [h.2.1] at this; exact absurd this (by decide)
  | some b, some c, h, k => by rw [ltC_total (k.2.2 b h.1 h.2.1) (h.2.2 c k.1 k.2.1)]
theorem minC_perm {P : List Int → Bool} {l m : List (List Int)} (hp : ∀ x, x ∈ l ↔ x ∈ m) : ∀ {o : Option (List Int)}, IsMinC P l o → IsMinC P m o
  | none, h => fun x hx => h x ((hp x).2 hx)
  | some b, h => ⟨(hp b).1 h.1, h.2.1, fun x hx => h.2.2 x ((hp x).2 hx)⟩
theorem minC_find {P : List Int → Bool} : ∀ {l : List (List Int)}, l.Pairwise (fun a b => ltC b a = false) → IsMinC P l (l.find? P)
  | [], _ => fun x hx => by cases hx
  | a :: r, h => by
    rw [List.pairwise_cons] at h
    cases hP : P a with
    | true =>
      rw [List.find?_cons_of_pos hP]
      refine ⟨by simp, hP, fun x hx _ => ?_⟩
      rcases List.mem_cons.1 hx with e | e
      · subst e; exact ltC_irr _
      · exact h.1 x e
    | false =>
      rw [List.find?_cons_of_neg (by rw [hP]; decide)]
      have ih := minC_find (P := P) h.2
      cases hf : r.find? P with
      | none =>
        rw [hf] at ih
        intro x hx
        rcases List.mem_cons.1 hx with e | e
        · subst e; exact hP
        · exact ih x e
      | some b =>
        rw [hf] at ih
        refine ⟨List.mem_cons_of_mem _ ih.1, ih.2.1, fun x hx hx2 => ?_⟩
        rcases List.mem_cons.1 hx with e | e
        · subst e; rw [hP] at hx2; cases hx2
        · exact ih.2.2 x e hx2

/-- One more set is looked at. -/
def stC (P : List Int → Bool) (o : Option (List Int)) (s : List Int) : Option (List Int) :=
  if P s && (match o with | none => true | some b => ltC s b) then some s else o
def bsC (P : List Int → Bool) (l : List (List Int)) : Option (List Int) := l.foldl (stC P) none
theorem bsC_snoc (P : List Int → Bool) (l : List (List Int)) (s : List Int) : bsC P (l ++ [s]) = stC P (bsC P l) s := by unfold bsC; rw [List.foldl_append]; rfl
theorem bsC_take {P : List Int → Bool} {l : List (List Int)} {k : Nat} {s : List Int} (h : l[k]? = some s) : bsC P (l.take (k + 1)) = stC P (bsC P (l.take k)) s := by
  rw [List.take_add_one, h]
  exact bsC_snoc P _ s
theorem minC_st {P : List Int → Bool} {l : List (List Int)} {s : List Int} : ∀ {o : Option (List Int)}, IsMinC P l o → IsMinC P (l ++ [s]) (stC P o s)
  | none, h => by
    unfold stC
    cases hP : P s with
    | false =>
      intro x hx
      rcases List.mem_append.1 hx with e | e
      · exact h x e
      · rw [List.mem_singleton.1 e]; exact hP
    | true =>
      refine ⟨by simp, hP, fun x hx hx2 => ?_⟩
      rcases List.mem_append.1 hx with e | e
      · rw [h x e] at hx2; cases hx2
      · rw [List.mem_singleton.1 e]; exact ltC_irr _
  | some b, h => by
    unfold stC
    cases hP : P s with
    | false =>
      refine ⟨List.mem_append_left _ h.1, h.2.1, fun x hx hx2 => ?_⟩
      rcases List.mem_append.1 hx with e | e
      · exact h.2.2 x e hx2
      · rw [List.mem_singleton.1 e] at hx2; rw [hP] at hx2; cases hx2
    | true =>
      cases hs : ltC s b with
      | false =>
        simp only [hs, Bool.and_false]
        refine ⟨List.mem_append_left _ h.1, h.2.1, fun x hx hx2 => ?_⟩
        rcases List.mem_append.1 hx with e | e
        · exact h.2.2 x e hx2
        · rw [List.mem_singleton.1 e]; exact hs
      | true =>
        simp only [hs, Bool.and_true]
        refine ⟨by simp, hP, fun x hx hx2 => ?_⟩
        rcases List.mem_append.1 hx with e | e
        · cases hx3 : ltC x s with
          | false => rfl
          | true => have := h.2.2 x e hx2; rw [ltC_trans hx3 hs] at this; cases this
        · rw [List.mem_singleton.1 e]; exact ltC_irr _
theorem minC_bs (P : List Int → Bool) (l : List (List Int)) : ∀ k, k ≤ l.length → IsMinC P (l.take k) (bsC P (l.take k))
  | 0, _ => fun x hx => by simp at hx
  | k + 1, hk => by
    obtain ⟨s, hs⟩ : ∃ s, l[k]? = some s := ⟨_, List.getElem?_eq_getElem hk⟩
    rw [bsC_take hs, List.take_add_one, hs]
    exact minC_st (minC_bs P l k (by omega))
/-- The first good one of the sorted sets is the best one of the sets in any order. -/
theorem first_best {P : List Int → Bool} {l sp : List (List Int)} (hp : sp.Perm l) (hs : sp.Pairwise fun a b => ltC b a = false) : sp.find? P = bsC P l := by
  have h1 := minC_perm (m := l) (fun x => hp.mem_iff) (minC_find (P := P) hs)
  have h2 := minC_bs P l l.length (Nat.le_refl _)
  rw [List.take_length] at h2
  exact minC_one h1 h2
end Tinker
