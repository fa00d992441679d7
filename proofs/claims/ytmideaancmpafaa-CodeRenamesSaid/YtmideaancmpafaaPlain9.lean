/- Plain mathematics, ninth part: each step changes one register; exchanged lines; joined programs. -/
import Derived.Test.YtmideaancmpafaaPlain8
set_option linter.unusedVariables false
set_option linter.unusedSimpArgs false
namespace Tinker

/-- The state before the k-th step, or at the end. -/
def stAt (st : List (Nat × List Int)) (e : List Int) (k : Nat) : List Int := (st.map (·.2)).getD k e
theorem stAt_lt {st : List (Nat × List Int)} {e : List Int} {k i : Nat} {s : List Int} (h : st[k]? = some (i, s)) : stAt st e k = s := by
  unfold stAt; exact getD_of_get (by rw [List.getElem?_map, h]; rfl)
theorem stAt_ge {st : List (Nat × List Int)} {e : List Int} {k : Nat} (h : st.length ≤ k) : stAt st e k = e := by
  unfold stAt
  rw [List.getD_eq_getElem?_getD, List.getElem?_eq_none (by simpa using h)]; rfl
theorem tr_first (p : List L) (f : Nat → Option Int) (i : Nat) (s : List Int) : stAt (tr p f i s).1 (tr p f i s).2 0 = s := by
  rcases Nat.lt_or_ge i p.length with hi | hi
  · obtain ⟨l, hl⟩ := get_of_lt hi
    rw [tr_lt hl]
    exact stAt_lt (i := i) rfl
  · rw [tr_ge hi]; exact stAt_ge (by simp)
theorem tr_next {p : List L} {f : Nat → Option Int} : ∀ (n i : Nat) (s : List Int), p.length - i ≤ n → ∀ k a u, (tr p f i s).1[k]? = some (a, u) →
    ∃ l, p[a]? = some l ∧ stAt (tr p f i s).1 (tr p f i s).2 (k + 1) = stp l u (f a)
  | n, i, s, hn, k, a, u, h => by
    rcases Nat.lt_or_ge i p.length with hi | hi
    · match n, hn with
      | 0, hn => omega
      | n + 1, hn =>
      obtain ⟨l, hl⟩ := get_of_lt hi
      have hg := nxt_gt l s i
      rw [tr_lt hl] at h ⊢
      cases k with
      | zero =>
        simp only [List.getElem?_cons_zero, Option.some.injEq, Prod.mk.injEq] at h
        obtain ⟨rfl, rfl⟩ := h
        refine ⟨l, hl, ?_⟩
        have e : ∀ (x : Nat × List Int) (r : List (Nat × List Int)) (z : List Int), stAt (x :: r) z (0 + 1) = stAt r z 0 := fun x r z => by simp [stAt]
        simp only [e]
        exact tr_first p f _ _
      | succ k =>
        have e : ∀ (x : Nat × List Int) (r : List (Nat × List Int)) (z : List Int), stAt (x :: r) z (k + 1 + 1) = stAt r z (k + 1) := fun x r z => by simp [stAt]
        simp only [List.getElem?_cons_succ] at h
        simp only [e]
        exact tr_next n _ _ (by omega) k a u h
    · rw [tr_ge hi] at h; simp at h
/-- What a step leaves. -/
theorem stp_other {l : L} {s : List Int} {o : Option Int} {r : Nat} (h : ¬ (wr l = true ∧ l.to.toNat = r)) : (stp l s o).getD r 0 = s.getD r 0 := by
  unfold stp
  split
  · rename_i hw
    exact getD_set_ne _ _ _ fun e => h ⟨hw, e⟩
  · rfl

/-- A program joined with another one: behind the first one. -/
theorem tr_right (p q : List L) : ∀ (n j : Nat) (s : List Int), q.length - j ≤ n → (tr (p ++ q) noF (p.length + j) s).2 = (tr q noF j s).2
  | n, j, s, hn => by
    rcases Nat.lt_or_ge j q.length with hj | hj
    · match n, hn with
      | 0, hn => omega
      | n + 1, hn =>
      obtain ⟨l, hl⟩ := get_of_lt hj
      have hg := nxt_gt l s j
      have hl2 : (p ++ q)[p.length + j]? = some l := by rw [List.getElem?_append_right (by omega)]; simpa using hl
      rw [tr_lt hl, tr_lt hl2]
      show (tr (p ++ q) noF (nxt l s (p.length + j)) (stp l s (noF (p.length + j)))).2 = (tr q noF (nxt l s j) (stp l s (noF j))).2
      have e : nxt l s (p.length + j) = p.length + nxt l s j := by unfold nxt; split <;> omega
      rw [e]
      exact tr_right p q n _ _ (by omega)
    · rw [tr_ge hj, tr_ge (by simp; omega)]
theorem tr_left {p q : List L} (h : ∀ i l, p[i]? = some l → l.op = 7 → i + l.to.toNat < p.length) : ∀ (n i : Nat) (s : List Int), p.length - i ≤ n → i ≤ p.length → (tr (p ++ q) noF i s).2 = (tr q noF 0 (tr p noF i s).2).2
  | n, i, s, hn, hi => by
    rcases Nat.lt_or_ge i p.length with hi' | hi'
    · match n, hn with
      | 0, hn => omega
      | n + 1, hn =>
      obtain ⟨l, hl⟩ := get_of_lt hi'
      have hg := nxt_gt l s i
      have hl2 : (p ++ q)[i]? = some l := by rw [List.getElem?_append_left hi']; exact hl
      rw [tr_lt hl, tr_lt hl2]
      show (tr (p ++ q) noF (nxt l s i) (stp l s (noF i))).2 = (tr q noF 0 (tr p noF (nxt l s i) (stp l s (noF i))).2).2
      refine tr_left h n _ _ (by omega) ?_
      by_cases hsk : skips l s = true
      · have h7 : l.op = 7 := by unfold skips at hsk; simp at hsk; exact hsk.1
        have := h i l hl h7
        unfold nxt; rw [if_pos hsk]; omega
      · unfold nxt; rw [if_neg hsk]; omega
    · have e : i = p.length := by omega
      subst e
      rw [tr_ge (Nat.le_refl _)]
      exact tr_right p q _ 0 s (Nat.le_refl _)
/-- Whether no skip reaches beyond the end. -/
def fitsB (p : List L) : Bool := (List.range p.length).all fun i => !(((p.getD i ⟨0, 0, 0, 0⟩).op == 7) && decide ((p.length : Int) ≤ i + (p.getD i ⟨0, 0, 0, 0⟩).to))
theorem fitsB_iff {p : List L} (h : fitsB p = true) : ∀ (i : Nat) (l : L), p[i]? = some l → l.op = 7 → (i : Int) + l.to < p.length := fun i l hl h7 => by
  have hi : i < p.length := (List.getElem?_eq_some_iff.1 hl).1
  have := List.all_eq_true.1 h i (List.mem_range.2 hi)
  rw [getD_of_get hl] at this
  simp [h7] at this
  omega
theorem runE_join {p q : List L} {s : List Int} (hv : ∀ l ∈ p, isLn l = true) (h : ∀ (i : Nat) (l : L), p[i]? = some l → l.op = 7 → (i : Int) + l.to < p.length) : runE (p ++ q) s = runE q (runE p s) := by
  unfold runE
  refine tr_left (fun i l hl h7 => ?_) _ 0 s (Nat.le_refl _) (by omega)
  have := h i l hl h7
  have := isLn_skip (hv l (mem_of_get hl)) h7
  omega

/-- Whether the line l disturbs m. -/
def dsB (l m : L) : Bool := wr l && ((rd m).getD l.to.toNat false || (wr m && m.to == l.to))
def inB (l m : L) : Bool := l.op != 7 && m.op != 7 && !dsB l m && !dsB m l
theorem wr_to {l : L} (hl : isLn l = true) (hw : wr l = true) : 0 ≤ l.to ∧ l.to ≤ 3 :=
  isLn_to hl (by have := wr_op8.1 hw; have := isLn_op hl; omega) (by have := wr_op8.1 hw; have := isLn_op hl; omega)
theorem val_set {l m : L} {s : List Int} {v : Int} (hl : isLn l = true) (hm : isLn m = true) (hw : wr l = true) (hwm : wr m = true) (hd : dsB l m = false) : Tinker.valOf m (s.set l.to.toNat v) = Tinker.valOf m s := by
  refine val_agr hm hwm fun k hk => ?_
  by_cases e : l.to.toNat = k
  · exfalso
    unfold dsB at hd
    rw [hw, e, hk] at hd
    simp at hd
  · exact getD_set_ne _ _ _ e
theorem stp_comm {l m : L} {s : List Int} (hl : isLn l = true) (hm : isLn m = true) (h : inB l m = true) : stp m (stp l s none) none = stp l (stp m s none) none := by
  unfold inB at h
  simp only [Bool.and_eq_true, Bool.not_eq_true'] at h
  obtain ⟨⟨⟨_, _⟩, h1⟩, h2⟩ := h
  by_cases hw : wr l = true
  · by_cases hwm : wr m = true
    · have e1 : ∀ u, stp l u none = u.set l.to.toNat (cutv (Tinker.valOf l u)) := fun u => by unfold stp; rw [if_pos hw]; rfl
      have e2 : ∀ u, stp m u none = u.set m.to.toNat (cutv (Tinker.valOf m u)) := fun u => by unfold stp; rw [if_pos hwm]; rfl
      rw [e1, e2, e2, e1, val_set hl hm hw hwm h1, val_set hm hl hwm hw h2]
      have hne : l.to.toNat ≠ m.to.toNat := fun e => by
        have a := wr_to hl hw
        have b := wr_to hm hwm
        have c : m.to = l.to := by omega
        unfold dsB at h1
        rw [hw, hwm, c] at h1
        simp at h1
      exact List.set_comm _ _ hne
    · have e2 : ∀ u, stp m u none = u := fun u => by unfold stp; rw [if_neg hwm]
      rw [e2, e2]
  · have e1 : ∀ u, stp l u none = u := fun u => by unfold stp; rw [if_neg hw]
    rw [e1, e1]
/-- The program with the lines at k and k + 1 exchanged. -/
def swp (p : List L) (k : Nat) : List L := (p.set k (p.getD (k + 1) ⟨0, 0, 0, 0⟩)).set (k + 1) (p.getD k ⟨0, 0, 0, 0⟩)
theorem swp_length (p : List L) (k : Nat) : (swp p k).length = p.length := by simp [swp]
theorem swp_other {p : List L} {k i : Nat} (h1 : i ≠ k) (h2 : i ≠ k + 1) : (swp p k)[i]? = p[i]? := by
  unfold swp; rw [List.getElem?_set_ne (by omega), List.getElem?_set_ne (by omega)]
theorem swp_0 {p : List L} {k : Nat} (h : k + 1 < p.length) : (swp p k)[k]? = some (p.getD (k + 1) ⟨0, 0, 0, 0⟩) := by
  unfold swp; rw [List.getElem?_set_ne (by omega), List.getElem?_set_self (by omega)]
theorem swp_1 {p : List L} {k : Nat} (h : k + 1 < p.length) : (swp p k)[k + 1]? = some (p.getD k ⟨0, 0, 0, 0⟩) := by
  unfold swp; rw [List.getElem?_set_self (by simp; omega)]
theorem swp_swp {p : List L} {k : Nat} (h : k + 1 < p.length) : swp (swp p k) k = p := by
  refine List.ext_getElem? fun i => ?_
  by_cases e1 : i = k
  · subst e1
    rw [swp_0 (by rw [swp_length]; exact h), getD_of_get (swp_1 h)]
    obtain ⟨x, hx⟩ := get_of_lt (show i < p.length by omega)
    rw [getD_of_get hx, hx]
  · by_cases e2 : i = k + 1
    · subst e2
      rw [swp_1 (by rw [swp_length]; exact h), getD_of_get (swp_0 h)]
      obtain ⟨x, hx⟩ := get_of_lt h
      rw [getD_of_get hx, hx]
    · rw [swp_other e1 e2, swp_other e1 e2]
theorem swp_mem {p : List L} {k : Nat} (h : k + 1 < p.length) {l : L} (hl : l ∈ swp p k) : l ∈ p := by
  obtain ⟨i, hi⟩ := List.mem_iff_getElem?.1 hl
  by_cases e1 : i = k
  · subst e1
    rw [swp_0 h] at hi
    injection hi with hi
    obtain ⟨x, hx⟩ := get_of_lt h
    rw [getD_of_get hx] at hi
    subst hi; exact mem_of_get hx
  · by_cases e2 : i = k + 1
    · subst e2
      rw [swp_1 h] at hi
      injection hi with hi
      obtain ⟨x, hx⟩ := get_of_lt (show k < p.length by omega)
      rw [getD_of_get hx] at hi
      subst hi; exact mem_of_get hx
    · rw [swp_other e1 e2] at hi; exact mem_of_get hi
/-- Whether no skip before the place k leads between the lines k and k + 1. -/
def skB (p : List L) (k : Nat) : Bool := (List.range k).all fun i => !((p.getD i ⟨0, 0, 0, 0⟩).op == 7 && ((i : Int) + 1 + (p.getD i ⟨0, 0, 0, 0⟩).to == (k : Int) + 1))
theorem tr_swp {p : List L} {k : Nat} (hv : ∀ l ∈ p, isLn l = true) (h : k + 1 < p.length) (hi : inB (p.getD k ⟨0, 0, 0, 0⟩) (p.getD (k + 1) ⟨0, 0, 0, 0⟩) = true) (hs : skB p k = true) :
    ∀ (n i : Nat) (s : List Int), p.length - i ≤ n → i ≠ k + 1 → (tr (swp p k) noF i s).2 = (tr p noF i s).2
  | n, i, s, hn, hik => by
    rcases Nat.lt_or_ge i p.length with hlt | hge
    · match n, hn with
      | 0, hn => omega
      | n + 1, hn =>
      by_cases e : i = k
      · subst e
        obtain ⟨l, hl⟩ := get_of_lt (show i < p.length by omega)
        obtain ⟨m, hm⟩ := get_of_lt h
        have hsl := swp_0 h
        have hsm := swp_1 h
        rw [getD_of_get hm] at hsl
        rw [getD_of_get hl] at hsm
        rw [getD_of_get hl, getD_of_get hm] at hi
        have hl7 : l.op ≠ 7 ∧ m.op ≠ 7 := by unfold inB at hi; simp at hi; exact ⟨hi.1.1.1, hi.1.1.2⟩
        have nl : ∀ u j, nxt l u j = j + 1 := fun u j => by unfold nxt; rw [skips_no hl7.1]; rfl
        have nm : ∀ u j, nxt m u j = j + 1 := fun u j => by unfold nxt; rw [skips_no hl7.2]; rfl
        rw [tr_lt hl, tr_lt hsl]
        show (tr (swp p i) noF (nxt m s i) (stp m s none)).2 = (tr p noF (nxt l s i) (stp l s none)).2
        rw [nl, nm, tr_lt hm, tr_lt hsm]
        show (tr (swp p i) noF (nxt l (stp m s none) (i + 1)) (stp l (stp m s none) none)).2 = (tr p noF (nxt m (stp l s none) (i + 1)) (stp m (stp l s none) none)).2
        rw [nl, nm, stp_comm (hv l (mem_of_get hl)) (hv m (mem_of_get hm)) hi]
        exact tr_swp hv h (by rw [getD_of_get hl, getD_of_get hm]; exact hi) hs n _ _ (by omega) (by omega)
      · obtain ⟨l, hl⟩ := get_of_lt hlt
        have hl2 : (swp p k)[i]? = some l := by rw [swp_other e hik]; exact hl
        have hg := nxt_gt l s i
        rw [tr_lt hl, tr_lt hl2]
        refine tr_swp hv h hi hs n _ _ (by omega) fun e2 => ?_
        rcases Nat.lt_or_ge i k with hik2 | hik2
        · by_cases hsk : skips l s = true
          · have h7 : l.op = 7 := by unfold skips at hsk; simp at hsk; exact hsk.1
            have hto := isLn_skip (hv l (mem_of_get hl)) h7
            have := List.all_eq_true.1 hs i (List.mem_range.2 hik2)
            rw [getD_of_get hl] at this
            simp [h7] at this
            unfold nxt at e2; rw [if_pos hsk] at e2
            omega
          · unfold nxt at e2; rw [if_neg hsk] at e2; omega
        · omega
    · rw [tr_ge hge, tr_ge (by rw [swp_length]; exact hge)]
theorem runE_swp {p : List L} {k : Nat} {s : List Int} (hv : ∀ l ∈ p, isLn l = true) (h : k + 1 < p.length) (hi : inB (p.getD k ⟨0, 0, 0, 0⟩) (p.getD (k + 1) ⟨0, 0, 0, 0⟩) = true) (hs : skB p k = true) : runE (swp p k) s = runE p s :=
  tr_swp hv h hi hs _ 0 s (Nat.le_refl _) (by omega)

end Tinker
