/- Several texts in one. -/
import Derived.Test.YtmigkbimdjiigaaSuT
import Derived.Test.YtmigkbimdjiigaaSvF
/- Plain mathematics: a suite's smallest cover beside that of another one; rows that are not needless. -/
set_option linter.unusedVariables false
set_option linter.unusedSimpArgs false
namespace Tinker
theorem nums_inU {n S : Nat} (hn : n ≤ 10) (hS : S < 2 ^ n) : ∀ x ∈ numsK S, 0 ≤ x ∧ x < (n : Int) := fun x hx => by
  rw [← nums_flt hn hS] at hx
  obtain ⟨i, rfl, h1, _⟩ := fltL_mem.1 hx
  omega
/-- If each row has one in another suite that meets at least what it meets, the other suite's smallest cover is no larger. -/
theorem cov_map {s s' : List Nat} (hl : s.length ≤ 8) (hl' : s'.length ≤ 8) (g : Nat → Nat) (hg : ∀ r, r < s.length → g r < s'.length)
    (hR : ∀ q, (openM s').testBit q = true → ∃ p, (openM s).testBit p = true ∧ ∀ r, r < s.length → (s.getD r 0).testBit p = true → (s'.getD (g r) 0).testBit q = true) : szK (covM s') ≤ szK (covM s) := by
  have hin := nums_inU (n := s.length) (by omega) (covM_lt hl)
  have h0 : ∀ x ∈ (numsK (covM s)).map (fun x => (g x.toNat : Int)), 0 ≤ x ∧ x < (s'.length : Int) := fun x hx => by
    obtain ⟨y, hy, rfl⟩ := List.mem_map.1 hx
    have := hin y hy
    have := hg y.toNat (by omega)
    omega
  have hc : covB s' (maskM ((numsK (covM s)).map fun x => (g x.toNat : Int))) = true := covB_iff.2 fun q hq => by
    obtain ⟨p, hp, hr⟩ := hR q hq
    obtain ⟨r, h1, h2, h3⟩ := metM_bit.1 (covB_iff.1 (covM_cov hl) p hp)
    refine metM_bit.2 ⟨g r, hg r h1, ?_, hr r h1 h3⟩
    rw [maskM_has fun x hx => (h0 x hx).1]
    exact List.mem_map.2 ⟨(r : Int), numsK_memN.2 ⟨by omega, h2⟩, rfl⟩
  have h1 := covM_min hl' (maskM_two hl' h0) hc
  have h2 : szK (maskM ((numsK (covM s)).map fun x => (g x.toNat : Int))) ≤ ((numsK (covM s)).map fun x => (g x.toNat : Int)).length := by
    refine nodup_lenI (set_nodup (setK _)) fun x hx => ?_
    obtain ⟨n, rfl, _, h4⟩ := numsK_mem.1 hx
    exact (maskM_has (fun x hx => (h0 x hx).1) n).1 h4
  rw [List.length_map] at h2
  unfold szK at *
  omega
theorem sub_eq {a b : Nat} (ha : a < 1024) (hb : b < 1024) (h : difK a b = 0) (hs : szK b ≤ szK a) : a = b := by
  have hd := difK_zero.1 h
  have e : b = a ||| difK b a := eq_bitsK hb (or_ltK ha (difK_lt hb)) fun i _ => by
    rw [Nat.testBit_or, difK_bit]
    cases hai : a.testBit i
    · cases b.testBit i <;> rfl
    · rw [hd i hai]; rfl
  have h1 := szK_or (a := a) (b := difK b a) (fun i hi => by rw [difK_bit, hi]; simp)
  rw [← e] at h1
  have h2 := szK_nil (difK_lt hb) (show szK (difK b a) = 0 by omega)
  rw [h2, Nat.or_zero] at e
  exact e.symm
/-- Each row has one that is not needless, and meets at least what it meets. -/
theorem dom_go {s : List Nat} (hl : s.length ≤ 8) (hv : ∀ x ∈ s, x < 1024) : ∀ (n r : Nat), r < s.length → (10 - szK (s.getD r 0)) * 16 + r < n → ∃ o, o < s.length ∧ nedB s o = false ∧ difK (s.getD r 0) (s.getD o 0) = 0
  | 0, _, _, h => absurd h (Nat.not_lt_zero _)
  | n + 1, r, hr, h => by
    cases hn : nedB s r
    · exact ⟨r, hr, hn, difK_zero.2 fun _ h => h⟩
    · obtain ⟨o, ho, hs⟩ := List.any_eq_true.1 hn
      have ho := List.mem_range.1 ho
      unfold stdB at hs
      rw [Bool.and_eq_true, beq_iff_eq, Bool.or_eq_true, bne_iff_ne, decide_eq_true_eq] at hs
      obtain ⟨h1, h2⟩ := hs
      have hlt : (10 - szK (s.getD o 0)) * 16 + o < n := by
        have hb1 := szK_le (s.getD r 0)
        have hb2 := szK_le (s.getD o 0)
        have hm := szK_mono (difK_zero.1 h1)
        rcases Nat.lt_or_ge (szK (s.getD r 0)) (szK (s.getD o 0)) with h3 | h3
        · omega
        · have e := sub_eq (getD_lt hv r) (getD_lt hv o) h1 h3
          rcases h2 with h2 | h2
          · exact absurd e h2
          · omega
      obtain ⟨q, q1, q2, q3⟩ := dom_go hl hv n o ho hlt
      exact ⟨q, q1, q2, difK_zero.2 fun i hi => difK_zero.1 q3 i (difK_zero.1 h1 i hi)⟩
theorem dom {s : List Nat} (hl : s.length ≤ 8) (hv : ∀ x ∈ s, x < 1024) {r : Nat} (hr : r < s.length) : ∃ o, o < s.length ∧ nedB s o = false ∧ difK (s.getD r 0) (s.getD o 0) = 0 := dom_go hl hv _ r hr (Nat.lt_succ_self _)
/-- The first k rows without the needless ones. -/
def lessTo (t : List (List Int)) (k : Nat) : List (List Int) := ((List.range k).filter fun r => !nedB (tblM t) r).map fun r => t.getD r []
theorem lessTo_yes {t : List (List Int)} {k : Nat} {z : List Int} (h : nedB (tblM t) k = false) (hz : t[k]? = some z) : lessTo t (k + 1) = lessTo t k ++ [z] := by
  unfold lessTo
  rw [List.range_succ, List.filter_append, List.map_append]
  simp [h, hz]
theorem lessTo_no {t : List (List Int)} {k : Nat} (h : nedB (tblM t) k = true) : lessTo t (k + 1) = lessTo t k := by
  unfold lessTo
  rw [List.range_succ, List.filter_append, List.map_append]
  simp [h]
theorem lessTo_len (t : List (List Int)) (k : Nat) : (lessTo t k).length ≤ k := by
  unfold lessTo
  rw [List.length_map]
  exact Nat.le_trans (List.length_filter_le _ _) (by simp)
theorem ned_has {s : List Nat} {k : Nat} (hk : k < s.length) : ((nedL s).any fun x => x == (k : Int)) = nedB s k := by
  rw [Bool.eq_iff_iff, List.any_eq_true]
  constructor
  · rintro ⟨x, hx, e⟩
    obtain ⟨i, rfl, hi, h⟩ := plcR_mem.1 hx
    have e2 : i = k := by have : ((i : Int)) = (k : Int) := by simpa using e
                          omega
    rw [← e2]; exact h
  · intro h
    exact ⟨(k : Int), plcR_mem.2 ⟨k, rfl, hk, h⟩, by simp⟩
theorem less_at {t : List (List Int)} {j : Nat} (hj : j < (lessTo t t.length).length) : ∃ r, r < t.length ∧ nedB (tblM t) r = false ∧ (lessTo t t.length)[j]? = t[r]? := by
  unfold lessTo at hj ⊢
  rw [List.length_map] at hj
  obtain ⟨r, hr⟩ := get_of_lt hj
  have hm := List.mem_filter.1 (List.mem_of_getElem? hr)
  have hr1 := List.mem_range.1 hm.1
  refine ⟨r, hr1, by simpa using hm.2, ?_⟩
  rw [List.getElem?_map, hr]
  obtain ⟨z, hz⟩ := get_of_lt hr1
  rw [hz, Option.map_some, getD_of_get hz]
theorem less_of {t : List (List Int)} {r : Nat} (hr : r < t.length) (hn : nedB (tblM t) r = false) : ∃ j, j < (lessTo t t.length).length ∧ (lessTo t t.length)[j]? = t[r]? := by
  obtain ⟨z, hz⟩ := get_of_lt hr
  have hm : r ∈ (List.range t.length).filter fun r => !nedB (tblM t) r := List.mem_filter.2 ⟨List.mem_range.2 hr, by rw [hn]; rfl⟩
  obtain ⟨j, hj⟩ := List.getElem?_of_mem hm
  refine ⟨j, ?_, ?_⟩
  · unfold lessTo
    rw [List.length_map]
    exact (List.getElem?_eq_some_iff.1 hj).1
  · unfold lessTo
    rw [List.getElem?_map, hj, hz, Option.map_some, getD_of_get hz]
theorem tblM_same {t u : List (List Int)} {i j : Nat} (h : u[j]? = t[i]?) : (tblM u).getD j 0 = (tblM t).getD i 0 := by
  unfold tblM
  rw [List.getD_eq_getElem?_getD, List.getD_eq_getElem?_getD, List.getElem?_map, List.getElem?_map, h]
/-- Rows of a good suite make a good one. -/
theorem vsu_rows {t u : List (List Int)} (hv : vsu t = 0) (hl : u.length ≤ 8) (h : ∀ z ∈ u, z ∈ t) : vsu u = 0 := by
  obtain ⟨h1, h2, h3⟩ := vsu_ok hv
  have hg : ∀ z ∈ u, z.length = goalsN u := fun z hz => by
    cases u with
    | nil => cases hz
    | cons x r =>
      show z.length = x.length
      rw [(h3 z (h z hz)).1, (h3 x (h x (by simp))).1]
  refine vsu_good ?_ (List.all_eq_true.2 fun z hz => ?_)
  · rintro (e | e)
    · omega
    · cases u with
      | nil => exact absurd e (by simp [goalsN])
      | cons x r =>
        have := (h3 x (h x (by simp))).1
        have e2 : goalsN (x :: r) = x.length := rfl
        omega
  · unfold rowB
    rw [Bool.and_eq_true, beq_iff_eq]
    exact ⟨hg z hz, (h3 z (h z hz)).2⟩
theorem thin_facts {t : List (List Int)} (hv : vsu t = 0) : vsu (lessTo t t.length) = 0 ∧ openM (tblM (lessTo t t.length)) = openM (tblM t) ∧ szK (covM (tblM (lessTo t t.length))) = szK (covM (tblM t)) := by
  obtain ⟨h8, _, _⟩ := vsu_ok hv
  have hsv := tblM_lt hv
  have hln := lessTo_len t t.length
  have hv2 : vsu (lessTo t t.length) = 0 := vsu_rows hv (by omega) fun z hz => by
    obtain ⟨j, hj⟩ := List.getElem?_of_mem hz
    obtain ⟨r, _, _, hr⟩ := less_at (List.getElem?_eq_some_iff.1 hj).1
    exact List.mem_of_getElem? (hr.symm.trans hj)
  have hl : (tblM t).length ≤ 8 := by rw [tblM_len]; exact h8
  have hl' : (tblM (lessTo t t.length)).length ≤ 8 := by rw [tblM_len]; omega
  have key1 : ∀ r : Nat, ∃ j : Nat, r < (tblM t).length → j < (tblM (lessTo t t.length)).length ∧ difK ((tblM t).getD r 0) ((tblM (lessTo t t.length)).getD j 0) = 0 := fun r => by
    by_cases hr : r < (tblM t).length
    · obtain ⟨o, o1, o2, o3⟩ := dom hl hsv hr
      rw [tblM_len] at o1
      obtain ⟨j, j1, j2⟩ := less_of o1 o2
      exact ⟨j, fun _ => ⟨by rw [tblM_len]; exact j1, by rw [tblM_same j2]; exact o3⟩⟩
    · exact ⟨0, fun h => absurd h hr⟩
  have key2 : ∀ j : Nat, ∃ r : Nat, j < (tblM (lessTo t t.length)).length → r < (tblM t).length ∧ (tblM (lessTo t t.length)).getD j 0 = (tblM t).getD r 0 := fun j => by
    by_cases hj : j < (tblM (lessTo t t.length)).length
    · have hj2 := hj
      rw [tblM_len] at hj2
      obtain ⟨r, r1, _, r3⟩ := less_at hj2
      exact ⟨r, fun _ => ⟨by rw [tblM_len]; exact r1, tblM_same r3⟩⟩
    · exact ⟨0, fun h => absurd h hj⟩
  obtain ⟨f, hf⟩ := Classical.axiomOfChoice key1
  obtain ⟨g, hg⟩ := Classical.axiomOfChoice key2
  have ho : openM (tblM (lessTo t t.length)) = openM (tblM t) := eq_bitsK (openM_lt (tblM_lt hv2)) (openM_lt hsv) fun i _ => by
    rw [Bool.eq_iff_iff, openM_bit, openM_bit]
    constructor
    · rintro ⟨j, j1, j2⟩
      obtain ⟨r1, r2⟩ := hg j j1
      exact ⟨g j, r1, by rw [← r2]; exact j2⟩
    · rintro ⟨r, r1, r2⟩
      obtain ⟨j1, j2⟩ := hf r r1
      exact ⟨f r, j1, difK_zero.1 j2 i r2⟩
  refine ⟨hv2, ho, Nat.le_antisymm ?_ ?_⟩
  · exact cov_map hl hl' f (fun r hr => (hf r hr).1) fun q hq => ⟨q, by rw [← ho]; exact hq, fun r hr h => difK_zero.1 (hf r hr).2 q h⟩
  · exact cov_map hl' hl g (fun j hj => (hg j hj).1) fun q hq => ⟨q, by rw [ho]; exact hq, fun j hj h => by rw [← (hg j hj).2]; exact h⟩
end Tinker

/- Plain mathematics: a suite without a goal. -/
set_option linter.unusedVariables false
set_option linter.unusedSimpArgs false
namespace Tinker
/-- A row without a goal; a suite without it; the error. -/
def drpR (g : Nat) (z : List Int) : List Int := z.take g ++ z.drop (g + 1)
def drpL (t : List (List Int)) (g : Nat) : List (List Int) := t.map (drpR g)
def drpE (t : List (List Int)) (r : Int) : Int := if vsu t = 0 then (if 0 ≤ r ∧ r < (goalsN t : Int) then 0 else 4) else vsu t
theorem drpL_len (t : List (List Int)) (g : Nat) : (drpL t g).length = t.length := by simp [drpL]
theorem drpR_len {g : Nat} {z : List Int} (h : g < z.length) : (drpR g z).length + 1 = z.length := by
  unfold drpR
  rw [List.length_append, List.length_take, List.length_drop]
  omega
theorem drpR_getD {g : Nat} {z : List Int} (h : g < z.length) (q : Nat) : (drpR g z).getD q 0 = z.getD (if q < g then q else q + 1) 0 := by
  unfold drpR
  rw [List.getD_eq_getElem?_getD, List.getD_eq_getElem?_getD]
  congr 1
  by_cases hq : q < g
  · rw [if_pos hq, List.getElem?_append_left (by rw [List.length_take]; omega), List.getElem?_take_of_lt hq]
  · rw [if_neg hq, List.getElem?_append_right (by rw [List.length_take]; omega), List.length_take, List.getElem?_drop]
    congr 1
    omega
theorem drp_goals {t : List (List Int)} {g : Nat} (hv : vsu t = 0) (hg : g < goalsN t) : goalsN (drpL t g) + 1 = goalsN t := by
  cases t with
  | nil => exact absurd hg (by simp [goalsN])
  | cons z r =>
    have h1 : goalsN (z :: r) = z.length := rfl
    have h2 : goalsN (drpL (z :: r) g) = (drpR g z).length := rfl
    rw [h1, h2]
    exact drpR_len (by rw [← h1]; exact hg)
theorem drp_good {t : List (List Int)} {g : Nat} (hv : vsu t = 0) (hg : g < goalsN t) : vsu (drpL t g) = 0 := by
  obtain ⟨h1, h2, h3⟩ := vsu_ok hv
  have hgg := drp_goals hv hg
  refine vsu_good ?_ (List.all_eq_true.2 fun y hy => ?_)
  · rw [drpL_len]
    omega
  · obtain ⟨z, hz, rfl⟩ := List.mem_map.1 hy
    obtain ⟨h4, h5⟩ := h3 z hz
    have h6 := drpR_len (g := g) (z := z) (by omega)
    unfold rowB
    rw [Bool.and_eq_true, beq_iff_eq]
    refine ⟨by omega, List.all_eq_true.2 fun x hx => ?_⟩
    refine List.all_eq_true.1 h5 x ?_
    unfold drpR at hx
    rcases List.mem_append.1 hx with h | h
    · exact List.take_subset _ _ h
    · exact List.drop_subset _ _ h
theorem drp_bit {t : List (List Int)} {g : Nat} (hv : vsu t = 0) (hg : g < goalsN t) {r : Nat} (hr : r < t.length) (q : Nat) : ((tblM (drpL t g)).getD r 0).testBit q = ((tblM t).getD r 0).testBit (if q < g then q else q + 1) := by
  obtain ⟨z, hz⟩ := get_of_lt hr
  have hz2 : (drpL t g)[r]? = some (drpR g z) := by unfold drpL; rw [List.getElem?_map, hz]; rfl
  have hzl := ((vsu_ok hv).2.2 z (List.mem_of_getElem? hz)).1
  rw [getD_of_get (tblM_get hz), getD_of_get (tblM_get hz2), rowM_bit, rowM_bit, drpR_getD (by omega)]
/-- No cover becomes larger. -/
theorem drp_cov {t : List (List Int)} {g : Nat} (hv : vsu t = 0) (hg : g < goalsN t) : szK (covM (tblM (drpL t g))) ≤ szK (covM (tblM t)) := by
  have h8 := (vsu_ok hv).1
  refine cov_map (by rw [tblM_len]; exact h8) (by rw [tblM_len, drpL_len]; exact h8) id (fun r hr => by rw [tblM_len, drpL_len]; rwa [tblM_len] at hr) fun q hq => ⟨if q < g then q else q + 1, ?_, fun r hr h => ?_⟩
  · obtain ⟨r, r1, r2⟩ := openM_bit.1 hq
    rw [tblM_len, drpL_len] at r1
    rw [drp_bit hv hg r1] at r2
    exact openM_bit.2 ⟨r, by rw [tblM_len]; exact r1, r2⟩
  · rw [tblM_len] at hr
    show ((tblM (drpL t g)).getD r 0).testBit q = true
    rw [drp_bit hv hg hr]
    exact h
theorem drpL_take {t : List (List Int)} {g k : Nat} {z : List Int} (h : t[k]? = some z) : drpL (t.take (k + 1)) g = drpL (t.take k) g ++ [drpR g z] := by
  unfold drpL
  rw [List.take_add_one, h, List.map_append]
  rfl
end Tinker
