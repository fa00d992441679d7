/- Plain mathematics: the states of a box, in ascending order, each one after the one before it. -/
import Derived.Test.YtmpghapfldjfeaaPlain
set_option linter.unusedVariables false
set_option linter.unusedSimpArgs false
namespace Tinker

/-- From l to h. -/
def rng (l h : Int) : List Int := (List.range (h - l + 1).toNat).map (fun (i : Nat) => l + (i : Int))
theorem rng_length (l h : Int) : (rng l h).length = (h - l + 1).toNat := by simp [rng]
theorem rng_get {l h : Int} {k : Nat} (hk : k < (h - l + 1).toNat) : (rng l h)[k]? = some (l + (k : Int)) := by
  unfold rng
  rw [List.getElem?_map, List.getElem?_range hk]; rfl
theorem rng_mem {l h x : Int} (hx : x ∈ rng l h) : l ≤ x ∧ x ≤ h := by
  unfold rng at hx
  obtain ⟨i, hi, rfl⟩ := List.mem_map.1 hx
  have := List.mem_range.1 hi
  omega
/-- A state longer by one register. -/
def exP (l h : Int) (s : List Int) : List (List Int) := (rng l h).map (fun n => s ++ [n])
theorem exP_length (l h : Int) (s : List Int) : (exP l h s).length = (h - l + 1).toNat := by simp [exP, rng_length]
/-- The states of the first r registers. -/
def exTo (lo hi : List Int) : Nat → List (List Int)
  | 0 => [[]]
  | r + 1 => (exTo lo hi r).flatMap (exP (lo.getD r 0) (hi.getD r 0))
def inBx (lo hi : List Int) (r : Nat) (s : List Int) : Prop := s.length = r ∧ ∀ j, j < r → lo.getD j 0 ≤ s.getD j 0 ∧ s.getD j 0 ≤ hi.getD j 0
theorem exTo_in (lo hi : List Int) : ∀ r s, s ∈ exTo lo hi r → inBx lo hi r s
  | 0, s, h => by
    simp [exTo] at h; subst h
    exact ⟨rfl, fun j hj => by omega⟩
  | r + 1, s, h => by
    rw [exTo, List.mem_flatMap] at h
    obtain ⟨t, ht, hs⟩ := h
    obtain ⟨n, hn, rfl⟩ := List.mem_map.1 hs
    obtain ⟨h1, h2⟩ := exTo_in lo hi r t ht
    have h3 := rng_mem hn
    refine ⟨by simp [h1], fun j hj => ?_⟩
    rcases Nat.lt_or_ge j r with hjr | hjr
    · have e : (t ++ [n]).getD j 0 = t.getD j 0 := by rw [List.getD_eq_getElem?_getD, List.getElem?_append_left (by omega), ← List.getD_eq_getElem?_getD]
      rw [e]; exact h2 j hjr
    · obtain rfl : j = r := by omega
      have e : (t ++ [n]).getD j 0 = n := by rw [List.getD_eq_getElem?_getD, List.getElem?_append_right (by omega), h1, Nat.sub_self]; rfl
      rw [e]; exact h3
theorem in_exTo (lo hi : List Int) : ∀ r s, inBx lo hi r s → s ∈ exTo lo hi r
  | 0, s, h => by
    have := List.eq_nil_of_length_eq_zero h.1
    subst this
    simp [exTo]
  | r + 1, s, h => by
    obtain ⟨h1, h2⟩ := h
    obtain ⟨x, hx⟩ := get_of_lt (show r < s.length by omega)
    have e : s = s.take r ++ [x] := by
      rw [← List.take_add_one_eq_append_of_get hx, List.take_of_length_le (by omega)]
    have hx2 := h2 r (by omega)
    rw [getD_of_get hx] at hx2
    rw [exTo, List.mem_flatMap]
    refine ⟨s.take r, in_exTo lo hi r _ ⟨by rw [List.length_take]; omega, fun j hj => ?_⟩, ?_⟩
    · have := h2 j (by omega)
      have et : (s.take r).getD j 0 = s.getD j 0 := by rw [List.getD_eq_getElem?_getD, List.getElem?_take_of_lt hj, ← List.getD_eq_getElem?_getD]
      rw [et]; exact this
    · refine List.mem_map.2 ⟨x, ?_, e.symm⟩
      unfold rng
      exact List.mem_map.2 ⟨(x - lo.getD r 0).toNat, List.mem_range.2 (by omega), by omega⟩
where
  List.take_add_one_eq_append_of_get {s : List Int} {r : Nat} {x : Int} (hx : s[r]? = some x) : s.take (r + 1) = s.take r ++ [x] := by
    rw [List.take_add_one, hx]; rfl

/-- Each one is what f makes of the one before it; z is what f makes of the last one. -/
def chn (f : List Int → Option (List Int)) : List (List Int) → Option (List Int) → Prop
  | [], _ => True
  | [x], z => f x = z
  | x :: y :: r, z => f x = some y ∧ chn f (y :: r) z
theorem chn_append {f : List Int → Option (List Int)} : ∀ {xs ys : List (List Int)} {y : List Int} {z : Option (List Int)}, chn f xs (some y) → chn f (y :: ys) z → chn f (xs ++ y :: ys) z
  | [], ys, y, z, _, h2 => h2
  | [x], ys, y, z, h1, h2 => ⟨h1, h2⟩
  | x :: x2 :: r, ys, y, z, h1, h2 => ⟨h1.1, chn_append h1.2 h2⟩
theorem chn_get {f : List Int → Option (List Int)} : ∀ {xs : List (List Int)} {z : Option (List Int)} {k : Nat} {x : List Int}, chn f xs z → xs[k]? = some x → f x = (if k + 1 < xs.length then xs[k + 1]? else z)
  | [], z, k, x, _, h => by simp at h
  | [a], z, 0, x, h, hx => by simp at hx; subst hx; rw [if_neg (by simp)]; exact h
  | [a], z, k + 1, x, h, hx => by simp at hx
  | a :: b :: r, z, 0, x, h, hx => by
    simp at hx; subst hx
    rw [h.1]; simp
  | a :: b :: r, z, k + 1, x, h, hx => by
    have := chn_get (k := k) h.2 (by simpa using hx)
    rw [this]
    simp
/-- The next state of the first r registers. -/
def suc (lo hi : List Int) : Nat → List Int → Option (List Int)
  | 0, _ => none
  | r + 1, s => if s.getD r 0 < hi.getD r 0 then some (s.take r ++ [s.getD r 0 + 1]) else (suc lo hi r (s.take r)).map (· ++ [lo.getD r 0])
theorem suc_snoc (lo hi : List Int) (r : Nat) (s : List Int) (n : Int) (h : s.length = r) : suc lo hi (r + 1) (s ++ [n]) = if n < hi.getD r 0 then some (s ++ [n + 1]) else (suc lo hi r s).map (· ++ [lo.getD r 0]) := by
  have e : (s ++ [n]).getD r 0 = n := by rw [List.getD_eq_getElem?_getD, List.getElem?_append_right (by omega), h, Nat.sub_self]; rfl
  have e2 : (s ++ [n]).take r = s := by rw [List.take_append_of_le_length (by omega), List.take_of_length_le (by omega)]
  rw [suc, e, e2]
theorem chn_up {f : List Int → Option (List Int)} {s : List Int} {h : Int} {z : Option (List Int)} (hf : ∀ n, n < h → f (s ++ [n]) = some (s ++ [n + 1])) (hl : f (s ++ [h]) = z) : ∀ (k : Nat), chn f ((List.range (k + 1)).map (fun (i : Nat) => s ++ [h - (k : Int) + (i : Int)])) z
  | 0 => by
    show chn f [s ++ [h - ((0 : Nat) : Int) + ((0 : Nat) : Int)]] z
    have e : h - ((0 : Nat) : Int) + ((0 : Nat) : Int) = h := by omega
    rw [e]; exact hl
  | k + 1 => by
    have ih := chn_up hf hl k
    have e : (List.range (k + 1 + 1)).map (fun (i : Nat) => s ++ [h - ((k + 1 : Nat) : Int) + (i : Int)]) = (s ++ [h - ((k + 1 : Nat) : Int)]) :: (List.range (k + 1)).map (fun (i : Nat) => s ++ [h - (k : Int) + (i : Int)]) := by
      rw [List.range_succ_eq_map, List.map_cons, List.map_map]
      congr 1
      · simp
      · refine List.map_congr_left fun i _ => ?_
        show s ++ [h - ((k + 1 : Nat) : Int) + ((i + 1 : Nat) : Int)] = s ++ [h - (k : Int) + (i : Int)]
        have : h - ((k + 1 : Nat) : Int) + ((i + 1 : Nat) : Int) = h - (k : Int) + (i : Int) := by omega
        rw [this]
    rw [e]
    have e2 : (List.range (k + 1)).map (fun (i : Nat) => s ++ [h - (k : Int) + (i : Int)]) = (s ++ [h - (k : Int)]) :: ((List.range k).map (fun (i : Nat) => s ++ [h - (k : Int) + ((i + 1 : Nat) : Int)])) := by
      rw [List.range_succ_eq_map, List.map_cons, List.map_map]
      congr 1
      simp
    rw [e2] at ih ⊢
    refine ⟨?_, ih⟩
    have : h - ((k + 1 : Nat) : Int) + 1 = h - (k : Int) := by omega
    rw [hf _ (by omega), this]
theorem chn_exP (lo hi : List Int) (r : Nat) (s : List Int) (hs : s.length = r) (hle : lo.getD r 0 ≤ hi.getD r 0) : chn (suc lo hi (r + 1)) (exP (lo.getD r 0) (hi.getD r 0) s) ((suc lo hi r s).map (· ++ [lo.getD r 0])) := by
  have h := chn_up (f := suc lo hi (r + 1)) (s := s) (h := hi.getD r 0) (z := (suc lo hi r s).map (· ++ [lo.getD r 0])) (fun n hn => by rw [suc_snoc _ _ _ _ _ hs, if_pos hn]) (by rw [suc_snoc _ _ _ _ _ hs, if_neg (by omega)]) (hi.getD r 0 - lo.getD r 0).toNat
  have e : exP (lo.getD r 0) (hi.getD r 0) s = (List.range ((hi.getD r 0 - lo.getD r 0).toNat + 1)).map (fun (i : Nat) => s ++ [hi.getD r 0 - (((hi.getD r 0 - lo.getD r 0).toNat : Nat) : Int) + (i : Int)]) := by
    unfold exP rng
    rw [List.map_map]
    have e1 : (hi.getD r 0 - lo.getD r 0 + 1).toNat = (hi.getD r 0 - lo.getD r 0).toNat + 1 := by omega
    rw [e1]
    refine List.map_congr_left fun i _ => ?_
    show s ++ [lo.getD r 0 + (i : Int)] = _
    have : hi.getD r 0 - (((hi.getD r 0 - lo.getD r 0).toNat : Nat) : Int) + (i : Int) = lo.getD r 0 + (i : Int) := by omega
    rw [this]
  rw [e]; exact h
theorem exP_head (l h : Int) (s : List Int) (hle : l ≤ h) : ∃ t, exP l h s = (s ++ [l]) :: t := by
  unfold exP rng
  have e1 : (h - l + 1).toNat = (h - l).toNat + 1 := by omega
  rw [e1, List.range_succ_eq_map, List.map_cons, List.map_cons]
  have e0 : l + ((0 : Nat) : Int) = l := by omega
  rw [e0]
  exact ⟨_, rfl⟩
theorem chn_flat (lo hi : List Int) (r : Nat) (hle : lo.getD r 0 ≤ hi.getD r 0) : ∀ (xs : List (List Int)) (z : Option (List Int)), (∀ s ∈ xs, s.length = r) → chn (suc lo hi r) xs z → chn (suc lo hi (r + 1)) (xs.flatMap (exP (lo.getD r 0) (hi.getD r 0))) (z.map (· ++ [lo.getD r 0]))
  | [], z, _, _ => trivial
  | [x], z, hl, h => by
    have := chn_exP lo hi r x (hl x (by simp)) hle
    rw [show suc lo hi r x = z from h] at this
    simpa using this
  | x :: y :: t, z, hl, h => by
    have ih := chn_flat lo hi r hle (y :: t) z (fun s hs => hl s (by simp [hs])) h.2
    have h1 := chn_exP lo hi r x (hl x (by simp)) hle
    rw [h.1] at h1
    rw [List.flatMap_cons]
    obtain ⟨u, hu⟩ := exP_head (lo.getD r 0) (hi.getD r 0) y hle
    have e : (y :: t).flatMap (exP (lo.getD r 0) (hi.getD r 0)) = (y ++ [lo.getD r 0]) :: (u ++ t.flatMap (exP (lo.getD r 0) (hi.getD r 0))) := by rw [List.flatMap_cons, hu]; rfl
    rw [e] at ih ⊢
    exact chn_append h1 ih
theorem exTo_chn (lo hi : List Int) (h4 : lo.length = 4) (hle : ∀ j, j < 4 → lo.getD j 0 ≤ hi.getD j 0) : ∀ r, r ≤ 4 → chn (suc lo hi r) (exTo lo hi r) none ∧ ∃ t, exTo lo hi r = lo.take r :: t
  | 0, _ => ⟨by simp [exTo, chn, suc], [], by simp [exTo]⟩
  | r + 1, hr => by
    obtain ⟨h1, t, h2⟩ := exTo_chn lo hi h4 hle r (by omega)
    have h3 := chn_flat lo hi r (hle r (by omega)) _ none (fun s hs => (exTo_in lo hi r s hs).1) h1
    refine ⟨h3, ?_⟩
    rw [exTo, h2, List.flatMap_cons]
    obtain ⟨u, hu⟩ := exP_head (lo.getD r 0) (hi.getD r 0) (lo.take r) (hle r (by omega))
    obtain ⟨x, hx⟩ := get_of_lt (show r < lo.length by omega)
    have e : lo.take (r + 1) = lo.take r ++ [lo.getD r 0] := by rw [List.take_add_one, hx, getD_of_get hx]; rfl
    exact ⟨_, by rw [hu, e]; rfl⟩
/-- All states of a box. -/
def allS (lo hi : List Int) : List (List Int) := exTo lo hi 4
/-- While the odometer turns: all registers behind r are at the start. -/
def cur (lo : List Int) (s : List Int) (r : Nat) : List Int := s.take r ++ lo.drop r
theorem cur_all (lo s : List Int) (h : s.length = 4) (hl : lo.length = 4) : cur lo s 4 = s := by unfold cur; rw [List.take_of_length_le (by omega), List.drop_eq_nil_of_le (by omega), List.append_nil]
theorem cur_length (lo s : List Int) (h : s.length = 4) (hl : lo.length = 4) {r : Nat} (hr : r ≤ 4) : (cur lo s r).length = 4 := by unfold cur; rw [List.length_append, List.length_take, List.length_drop]; omega
theorem cur_set (lo s : List Int) (h : s.length = 4) (hl : lo.length = 4) {r : Nat} (hr : r < 4) : (cur lo s (r + 1)).set r (lo.getD r 0) = cur lo s r := by
  unfold cur
  refine List.ext_getElem? fun k => ?_
  obtain ⟨x, hx⟩ := get_of_lt (show r < lo.length by omega)
  rw [List.getElem?_set, getD_of_get hx]
  by_cases e : r = k
  · subst e
    rw [if_pos rfl, if_pos (by rw [List.length_append, List.length_take, List.length_drop]; omega), List.getElem?_append_right (by rw [List.length_take]; omega), List.length_take, List.getElem?_drop]
    rw [show r + (r - min r s.length) = r by omega, hx]
  · rw [if_neg e]
    rcases Nat.lt_or_ge k r with hk | hk
    · rw [List.getElem?_append_left (by rw [List.length_take]; omega), List.getElem?_append_left (by rw [List.length_take]; omega), List.getElem?_take_of_lt (by omega), List.getElem?_take_of_lt hk]
    · rw [List.getElem?_append_right (by rw [List.length_take]; omega), List.getElem?_append_right (by rw [List.length_take]; omega), List.length_take, List.length_take, List.getElem?_drop, List.getElem?_drop]
      rw [show r + 1 + (k - min (r + 1) s.length) = k by omega, show r + (k - min r s.length) = k by omega]
theorem cur_get (lo s : List Int) (h : s.length = 4) (hl : lo.length = 4) {r : Nat} (hr : r < 4) : (cur lo s (r + 1)).getD r 0 = s.getD r 0 := by
  unfold cur
  rw [List.getD_eq_getElem?_getD, List.getElem?_append_left (by rw [List.length_take]; omega), List.getElem?_take_of_lt (by omega), ← List.getD_eq_getElem?_getD]
theorem cur_inc (lo s : List Int) (h : s.length = 4) (hl : lo.length = 4) {r : Nat} (hr : r < 4) (v : Int) : (cur lo s (r + 1)).set r v = (s.take r ++ [v]) ++ lo.drop (r + 1) := by
  unfold cur
  have e : s.take (r + 1) = s.take r ++ [s.getD r 0] := by
    obtain ⟨x, hx⟩ := get_of_lt (show r < s.length by omega)
    rw [List.take_add_one, hx, getD_of_get hx]; rfl
  rw [e, List.set_append_left _ _ (by simp; omega), List.set_append_right _ _ (by rw [List.length_take]; omega), List.length_take, show r - min r s.length = 0 by omega]
  rfl
/-- What the next state is, once all behind r have turned. -/
theorem suc_cur (lo hi s : List Int) (h : s.length = 4) (hl : lo.length = 4) : ∀ k r, r + k = 4 → (∀ j, r ≤ j → j < 4 → ¬ s.getD j 0 < hi.getD j 0) → suc lo hi 4 s = (suc lo hi r (s.take r)).map (· ++ lo.drop r)
  | 0, r, hr, _ => by
    obtain rfl : r = 4 := by omega
    rw [List.take_of_length_le (by omega), List.drop_eq_nil_of_le (by omega)]
    simp
  | k + 1, r, hr, hj => by
    rw [suc_cur lo hi s h hl k (r + 1) (by omega) (fun j h1 h2 => hj j (by omega) h2)]
    have e : (s.take (r + 1)).getD r 0 = s.getD r 0 := by rw [List.getD_eq_getElem?_getD, List.getElem?_take_of_lt (by omega), ← List.getD_eq_getElem?_getD]
    have e2 : (s.take (r + 1)).take r = s.take r := by rw [List.take_take, Nat.min_eq_left (by omega)]
    rw [suc, e, e2, if_neg (hj r (Nat.le_refl _) (by omega)), Option.map_map]
    congr 1
    funext t
    obtain ⟨x, hx⟩ := get_of_lt (show r < lo.length by omega)
    have e3 : lo.drop r = lo.getD r 0 :: lo.drop (r + 1) := by
      rw [getD_of_get hx]
      exact (List.drop_eq_getElem_cons (by omega)).trans (by rw [(List.getElem?_eq_some_iff.1 hx).2])
    show t ++ [lo.getD r 0] ++ lo.drop (r + 1) = t ++ lo.drop r
    rw [e3]; simp
theorem suc_step (lo hi s : List Int) (h : s.length = 4) (hl : lo.length = 4) {r : Nat} (hr : r < 4) (hj : ∀ j, r < j → j < 4 → ¬ s.getD j 0 < hi.getD j 0) (hlt : s.getD r 0 < hi.getD r 0) : suc lo hi 4 s = some ((cur lo s (r + 1)).set r (s.getD r 0 + 1)) := by
  rw [suc_cur lo hi s h hl (3 - r) (r + 1) (by omega) (fun j h1 h2 => hj j (by omega) h2), cur_inc lo s h hl hr]
  have e : (s.take (r + 1)).getD r 0 = s.getD r 0 := by rw [List.getD_eq_getElem?_getD, List.getElem?_take_of_lt (by omega), ← List.getD_eq_getElem?_getD]
  have e2 : (s.take (r + 1)).take r = s.take r := by rw [List.take_take, Nat.min_eq_left (by omega)]
  rw [suc, e, e2, if_pos hlt]; rfl
theorem suc_end (lo hi s : List Int) (h : s.length = 4) (hl : lo.length = 4) (hj : ∀ j, j < 4 → ¬ s.getD j 0 < hi.getD j 0) : suc lo hi 4 s = none := by
  rw [suc_cur lo hi s h hl 4 0 rfl (fun j _ h2 => hj j h2)]; rfl

end Tinker
