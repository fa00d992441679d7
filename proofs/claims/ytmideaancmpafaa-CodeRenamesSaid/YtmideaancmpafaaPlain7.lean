/- Plain mathematics, seventh part: the slice by all lines is the slice by the steps. -/
import Derived.Test.YtmideaancmpafaaPlain6
set_option linter.unusedVariables false
set_option linter.unusedSimpArgs false
namespace Tinker

def atL (p : List L) (i : Nat) : Nat × L := (i, p.getD i ⟨0, 0, 0, 0⟩)
theorem foldrSl_length (d : List Bool) (js : List (Nat × L)) (s : List Bool × List Bool) : (js.foldr (fun x s => stSl d s x) s).2.length = s.2.length := by
  induction js with
  | nil => rfl
  | cons x r ih =>
    rw [List.foldr_cons]
    generalize r.foldr (fun x s => stSl d s x) s = q at ih
    unfold stSl; simpa using ih
theorem foldrSR_length (p : List L) (st : List (Nat × List Int)) (s : List Bool × List Bool) : (st.foldr (stR p) s).2.length = s.2.length := by
  induction st with
  | nil => rfl
  | cons x r ih =>
    rw [List.foldr_cons]
    generalize r.foldr (stR p) s = q at ih
    unfold stR; simp only
    split
    · simpa using ih
    · exact ih

/-- What holds of both ways backward. -/
structure SlRel (p : List L) (st : List (Nat × List Int)) (A B : List Bool × List Bool) : Prop where
  m : A.1 = B.1
  s : ∀ j, A.2.getD j false = B.2.getD j false
  t : ∀ j, B.2.getD j false = true → ∃ x ∈ st, x.1 = j

theorem slRel (p : List L) (d : List Bool) (r : Nat) : ∀ (js : List Nat) (st : List (Nat × List Int)), js.Pairwise (· < ·) → asc st → (∀ x ∈ st, x.1 ∈ js) →
    (∀ j ∈ js, d.getD j false = st.any (·.1 == j)) → (∀ j ∈ js, j < 8 ∧ j < p.length) →
    SlRel p st ((js.map (atL p)).foldr (fun x s => stSl d s x) (sl0 r)) (st.foldr (stR p) (slR0 p.length r))
  | [], st, _, _, hs, _, _ => by
    have : st = [] := List.eq_nil_iff_forall_not_mem.2 fun x hx => by have := hs x hx; simp at this
    subst this
    refine ⟨rfl, fun j => ?_, fun j h => ?_⟩
    · show (List.replicate 8 false).getD j false = (List.replicate p.length false).getD j false
      rw [rep_get, rep_get]
    · have h' : (List.replicate p.length false).getD j false = true := h
      rw [rep_get] at h'; cases h'
  | j :: js, st, hj, ha, hs, hd, hb => by
    rw [List.pairwise_cons] at hj
    obtain ⟨hj8, hjp⟩ := hb j (by simp)
    have key : ∀ st', asc st' → (∀ x ∈ st', x.1 ∈ js) → (∀ k ∈ js, d.getD k false = st'.any (·.1 == k)) →
        SlRel p st' ((js.map (atL p)).foldr (fun x s => stSl d s x) (sl0 r)) (st'.foldr (stR p) (slR0 p.length r)) := fun st' h1 h2 h3 => slRel p d r js st' hj.2 h1 h2 h3 (fun k hk => hb k (List.mem_cons_of_mem _ hk))
    have hlen := foldrSl_length d (js.map (atL p)) (sl0 r)
    have hl8 : ((js.map (atL p)).foldr (fun x s => stSl d s x) (sl0 r)).2.length = 8 := by rw [hlen]; simp [sl0]
    rw [List.map_cons, List.foldr_cons]
    generalize hA : (js.map (atL p)).foldr (fun x s => stSl d s x) (sl0 r) = A at key hl8
    clear hlen hA
    by_cases hany : st.any (·.1 == j) = true
    · match st, ha, hs, hd, hany with
      | [], _, _, _, hany => simp at hany
      | x :: st', ha, hs, hd, hany =>
        have ha' := List.pairwise_cons.1 ha
        have hxj : x.1 = j := by
          rcases List.mem_cons.1 (hs x (by simp)) with e | e
          · exact e
          · have h1 := hj.1 _ e
            rw [List.any_eq_true] at hany
            obtain ⟨y, hy, hyj⟩ := hany
            simp only [beq_iff_eq] at hyj
            rcases List.mem_cons.1 hy with rfl | hy
            · exact hyj
            · have := ha'.1 y hy; omega
        have hr : ∀ y ∈ st', y.1 ∈ js := fun y hy => by
          rcases List.mem_cons.1 (hs y (List.mem_cons_of_mem _ hy)) with e | e
          · have := ha'.1 y hy; omega
          · exact e
        have K := key st' ha'.2 hr fun k hk => by
          rw [hd k (List.mem_cons_of_mem _ hk), List.any_cons]
          have := hj.1 k hk
          have : (x.1 == k) = false := by rw [beq_eq_false_iff_ne]; omega
          rw [this]; rfl
        have hdj : d.getD j false = true := by rw [hd j (by simp)]; exact hany
        rw [List.foldr_cons]
        have hlR := foldrSR_length p st' (slR0 p.length r)
        have hlR' : (st'.foldr (stR p) (slR0 p.length r)).2.length = p.length := by rw [hlR]; simp [slR0]
        generalize st'.foldr (stR p) (slR0 p.length r) = B at K hlR'
        clear hlR
        have hBj : B.2.getD j false = false := by
          cases hq : B.2.getD j false
          · rfl
          · obtain ⟨y, hy, hyj⟩ := K.t j hq
            have := hj.1 _ (hr y hy); omega
        obtain ⟨x1, x2⟩ := x
        simp only at hxj
        subst hxj
        have hin : inSl d A.1 x1 (p.getD x1 ⟨0, 0, 0, 0⟩) = ((p.getD x1 ⟨0, 0, 0, 0⟩).op == 7 || (wr (p.getD x1 ⟨0, 0, 0, 0⟩) && B.1.getD (p.getD x1 ⟨0, 0, 0, 0⟩).to.toNat false)) := by
          unfold inSl; rw [hdj, K.m, Bool.true_and]
        unfold stSl stR atL
        simp only
        rw [hin]
        split
        · refine ⟨by simp only [K.m], fun k => ?_, fun k hk => ?_⟩
          · simp only
            rw [getD_set _ _ _ _ _ (by omega), getD_set _ _ _ _ _ (by omega), K.s]
            rename_i hc
            rw [hc]
          · simp only at hk
            rw [getD_set _ _ _ _ _ (by omega)] at hk
            split at hk
            · rename_i e; exact ⟨(x1, x2), by simp, e⟩
            · obtain ⟨y, hy, e⟩ := K.t k hk; exact ⟨y, List.mem_cons_of_mem _ hy, e⟩
        · rename_i hc
          rw [Bool.not_eq_true] at hc
          refine ⟨K.m, fun k => ?_, fun k hk => ?_⟩
          · simp only
            rw [getD_set _ _ _ _ _ (by omega), hc]
            split
            · rename_i e; subst e; exact hBj.symm
            · exact K.s k
          · obtain ⟨y, hy, e⟩ := K.t k hk; exact ⟨y, List.mem_cons_of_mem _ hy, e⟩
    · rw [Bool.not_eq_true] at hany
      have hne : ∀ y ∈ st, y.1 ≠ j := fun y hy e => by
        have : st.any (·.1 == j) = true := List.any_eq_true.2 ⟨y, hy, by simpa using e⟩
        rw [hany] at this; cases this
      have K := key st ha (fun y hy => (List.mem_cons.1 (hs y hy)).resolve_left (hne y hy)) fun k hk => hd k (List.mem_cons_of_mem _ hk)
      generalize st.foldr (stR p) (slR0 p.length r) = B at K
      have hdj : d.getD j false = false := by rw [hd j (by simp)]; exact hany
      have hin : inSl d A.1 j (p.getD j ⟨0, 0, 0, 0⟩) = false := by unfold inSl; rw [hdj]; rfl
      have hBj : B.2.getD j false = false := by
        cases hq : B.2.getD j false
        · rfl
        · obtain ⟨y, hy, hyj⟩ := K.t j hq
          exact absurd hyj (hne y hy)
      unfold stSl atL
      simp only
      rw [hin]
      refine ⟨K.m, fun k => ?_, K.t⟩
      simp only
      rw [getD_set _ _ _ _ _ (by omega)]
      split
      · rename_i e; subst e; exact hBj.symm
      · exact K.s k

theorem plcTo_ext {a b : List Bool} (h : ∀ j, a.getD j false = b.getD j false) (k : Nat) : plcTo a k = plcTo b k := by
  unfold plcTo; simp only [h]
theorem plcTo_more (a : List Bool) : ∀ (m k : Nat), (∀ j, k ≤ j → a.getD j false = false) → plcTo a (k + m) = plcTo a k
  | 0, k, h => rfl
  | m + 1, k, h => by
    rw [← plcTo_more a m k h]
    unfold plcTo
    rw [← Nat.add_assoc, List.range_succ, List.filter_append, List.map_append]
    have e : [k + m].filter (fun i => a.getD i false) = [] := by
      rw [List.filter_cons, h (k + m) (by omega)]; rfl
    rw [e]; simp
theorem getD_ge {a : List Bool} {j : Nat} (h : a.length ≤ j) : a.getD j false = false := by
  rw [List.getD_eq_getElem?_getD, List.getElem?_eq_none h]; rfl
theorem plc_ext {a b : List Bool} (h : ∀ j, a.getD j false = b.getD j false) : plc a = plc b := by
  unfold plc
  rw [plcTo_ext h]
  rcases Nat.le_total a.length b.length with hl | hl
  · have e := plcTo_more b (b.length - a.length) a.length (fun j hj => by rw [← h]; exact getD_ge hj)
    rw [show a.length + (b.length - a.length) = b.length by omega] at e
    exact e.symm
  · have e := plcTo_more b (a.length - b.length) b.length (fun j hj => getD_ge hj)
    rw [show b.length + (a.length - b.length) = a.length by omega] at e
    exact e

/-- The slice by all lines is that by the steps. -/
theorem slice_eq {p : List L} {st : List (Nat × List Int)} (ha : asc st) (hp : p.length ≤ 8) (hs : ∀ x ∈ st, x.1 < p.length) (r : Nat) : plc (sliceB p (doneL st) r) = plc (sliceR p st r) := by
  refine plc_ext fun j => ?_
  have e : sliceB p (doneL st) r = (((List.range p.length).map (atL p)).foldr (fun x s => stSl (doneL st) s x) (sl0 r)).2 := by
    unfold sliceB backL
    rw [List.foldl_reverse]; rfl
  rw [e]
  refine (slRel p (doneL st) r (List.range p.length) st List.pairwise_lt_range ha (fun x hx => List.mem_range.2 (hs x hx)) (fun j hj => doneL_get st (by have := List.mem_range.1 hj; omega)) (fun j hj => ⟨by have := List.mem_range.1 hj; omega, List.mem_range.1 hj⟩)).s j

end Tinker
