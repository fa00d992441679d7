/- Several texts in one. -/
import Derived.Test.YtmpgaccpdglhkaaPlain
import Derived.Test.YtmpgaccpdglhkaaChkB
import Derived.Test.YtmpgaccpdglhkaaTrB
import Derived.Laws.MakeOwn
import Derived.Test.YtmpgaccpdglhkaaConB
/- Plain mathematics: the states of a box, in ascending order, each one after the one before it. -/
set_option linter.unusedVariables false
set_option linter.unusedSimpArgs false
namespace Tinker

/-- From l to h. -/
def rng (l h : Int) : List Int := (List.range (h - l + 1).toNat).map (fun (i : Nat) => l + (i : Int))
theorem rng_length (l h : Int) : (rng l h).length = (h - l + 1).toNat := by simp [rng]
theorem rng_get {l h : Int} {k : Nat} (hk : k < (h - l + 1).toNat) : (rng l h)[k]? = some (l + (k : Int)) := by
  unfold rng
  rw [List.getElem?_map, List.getElem?_range hk]; rfl
theorem rng_mem {l h x : Int} (hx : x ∈ rng l h) : l ≤ x ∧ x ≤ h := by
  unfold rng at hx
  obtain ⟨i, hi, rfl⟩ := List.mem_map.1 hx
  have := List.mem_range.1 hi
  omega
/-- A state longer by one register. -/
def exP (l h : Int) (s : List Int) : List (List Int) := (rng l h).map (fun n => s ++ [n])
theorem exP_length (l h : Int) (s : List Int) : (exP l h s).length = (h - l + 1).toNat := by simp [exP, rng_length]
/-- The states of the first r registers. -/
def exTo (lo hi : List Int) : Nat → List (List Int)
  | 0 => [[]]
  | r + 1 => (exTo lo hi r).flatMap (exP (lo.getD r 0) (hi.getD r 0))
def inBx (lo hi : List Int) (r : Nat) (s : List Int) : Prop := s.length = r ∧ ∀ j, j < r → lo.getD j 0 ≤ s.getD j 0 ∧ s.getD j 0 ≤ hi.getD j 0
theorem exTo_in (lo hi : List Int) : ∀ r s, s ∈ exTo lo hi r → inBx lo hi r s
  | 0, s, h => by
    simp [exTo] at h; subst h
    exact ⟨rfl, fun j hj => by omega⟩
  | r + 1, s, h => by
    rw [exTo, List.mem_flatMap] at h
    obtain ⟨t, ht, hs⟩ := h
    obtain ⟨n, hn, rfl⟩ := List.mem_map.1 hs
    obtain ⟨h1, h2⟩ := exTo_in lo hi r t ht
    have h3 := rng_mem hn
    refine ⟨by simp [h1], fun j hj => ?_⟩
    rcases Nat.lt_or_ge j r with hjr | hjr
    · have e : (t ++ [n]).getD j 0 = t.getD j 0 := by rw [List.getD_eq_getElem?_getD, List.getElem?_append_left (by omega), ← List.getD_eq_getElem?_getD]
      rw [e]; exact h2 j hjr
    · obtain rfl : j = r := by omega
      have e : (t ++ [n]).getD j 0 = n := by rw [List.getD_eq_getElem?_getD, List.getElem?_append_right (by omega), h1, Nat.sub_self]; rfl
      rw [e]; exact h3
theorem in_exTo (lo hi : List Int) : ∀ r s, inBx lo hi r s → s ∈ exTo lo hi r
  | 0, s, h => by
    have := List.eq_nil_of_length_eq_zero h.1
    subst this
    simp [exTo]
  | r + 1, s, h => by
    obtain ⟨h1, h2⟩ := h
    obtain ⟨x, hx⟩ := get_of_lt (show r < s.length by omega)
    have e : s = s.take r ++ [x] := by
      rw [← List.take_add_one_eq_append_of_get hx, List.take_of_length_le (by omega)]
    have hx2 := h2 r (by omega)
    rw [getD_of_get hx] at hx2
    rw [exTo, List.mem_flatMap]
    refine ⟨s.take r, in_exTo lo hi r _ ⟨by rw [List.length_take]; omega, fun j hj => ?_⟩, ?_⟩
    · have := h2 j (by omega)
      have et : (s.take r).getD j 0 = s.getD j 0 := by rw [List.getD_eq_getElem?_getD, List.getElem?_take_of_lt hj, ← List.getD_eq_getElem?_getD]
      rw [et]; exact this
    · refine List.mem_map.2 ⟨x, ?_, e.symm⟩
      unfold rng
      exact List.mem_map.2 ⟨(x - lo.getD r 0).toNat, List.mem_range.2 (by omega), by omega⟩
where
  List.take_add_one_eq_append_of_get {s : List Int} {r : Nat} {x : Int} (hx : s[r]? = some x) : s.take (r + 1) = s.take r ++ [x] := by
    rw [List.take_add_one, hx]; rfl

/-- Each one is what f makes of the one before it; z is what f makes of the last one. -/
def chn (f : List Int → Option (List Int)) : List (List Int) → Option (List Int) → Prop
  | [], _ => True
  | [x], z => f x = z
  | x :: y :: r, z => f x = some y ∧ chn f (y :: r) z
theorem chn_append {f : List Int → Option (List Int)} : ∀ {xs ys : List (List Int)} {y : List Int} {z : Option (List Int)}, chn f xs (some y) → chn f (y :: ys) z → chn f (xs ++ y :: ys) z
  | [], ys, y, z, _, h2 => h2
  | [x], ys, y, z, h1, h2 => ⟨h1, h2⟩
  | x :: x2 :: r, ys, y, z, h1, h2 => ⟨h1.1, chn_append h1.2 h2⟩
theorem chn_get {f : List Int → Option (List Int)} : ∀ {xs : List (List Int)} {z : Option (List Int)} {k : Nat} {x : List Int}, chn f xs z → xs[k]? = some x → f x = (if k + 1 < xs.length then xs[k + 1]? else z)
  | [], z, k, x, _, h => by simp at h
  | [a], z, 0, x, h, hx => by simp at hx; subst hx; rw [if_neg (by simp)]; exact h
  | [a], z, k + 1, x, h, hx => by simp at hx
  | a :: b :: r, z, 0, x, h, hx => by
    simp at hx; subst hx
    rw [h.1]; simp
  | a :: b :: r, z, k + 1, x, h, hx => by
    have := chn_get (k := k) h.2 (by simpa using hx)
    rw [this]
    simp
/-- The next state of the first r registers. -/
def suc (lo hi : List Int) : Nat → List Int → Option (List Int)
  | 0, _ => none
  | r + 1, s => if s.getD r 0 < hi.getD r 0 then some (s.take r ++ [s.getD r 0 + 1]) else (suc lo hi r (s.take r)).map (· ++ [lo.getD r 0])
theorem suc_snoc (lo hi : List Int) (r : Nat) (s : List Int) (n : Int) (h : s.length = r) : suc lo hi (r + 1) (s ++ [n]) = if n < hi.getD r 0 then some (s ++ [n + 1]) else (suc lo hi r s).map (· ++ [lo.getD r 0]) := by
  have e : (s ++ [n]).getD r 0 = n := by rw [List.getD_eq_getElem?_getD, List.getElem?_append_right (by omega), h, Nat.sub_self]; rfl
  have e2 : (s ++ [n]).take r = s := by rw [List.take_append_of_le_length (by omega), List.take_of_length_le (by omega)]
  rw [suc, e, e2]
theorem chn_up {f : List Int → Option (List Int)} {s : List Int} {h : Int} {z : Option (List Int)} (hf : ∀ n, n < h → f (s ++ [n]) = some (s ++ [n + 1])) (hl : f (s ++ [h]) = z) : ∀ (k : Nat), chn f ((List.range (k + 1)).map (fun (i : Nat) => s ++ [h - (k : Int) + (i : Int)])) z
  | 0 => by
    show chn f [s ++ [h - ((0 : Nat) : Int) + ((0 : Nat) : Int)]] z
    have e : h - ((0 : Nat) : Int) + ((0 : Nat) : Int) = h := by omega
    rw [e]; exact hl
  | k + 1 => by
    have ih := chn_up hf hl k
    have e : (List.range (k + 1 + 1)).map (fun (i : Nat) => s ++ [h - ((k + 1 : Nat) : Int) + (i : Int)]) = (s ++ [h - ((k + 1 : Nat) : Int)]) :: (List.range (k + 1)).map (fun (i : Nat) => s ++ [h - (k : Int) + (i : Int)]) := by
      rw [List.range_succ_eq_map, List.map_cons, List.map_map]
      congr 1
      · simp
      · refine List.map_congr_left fun i _ => ?_
        show s ++ [h - ((k + 1 : Nat) : Int) + ((i + 1 : Nat) : Int)] = s ++ [h - (k : Int) + (i : Int)]
        have : h - ((k + 1 : Nat) : Int) + ((i + 1 : Nat) : Int) = h - (k : Int) + (i : Int) := by omega
        rw [this]
    rw [e]
    have e2 : (List.range (k + 1)).map (fun (i : Nat) => s ++ [h - (k : Int) + (i : Int)]) = (s ++ [h - (k : Int)]) :: ((List.range k).map (fun (i : Nat) => s ++ [h - (k : Int) + ((i + 1 : Nat) : Int)])) := by
      rw [List.range_succ_eq_map, List.map_cons, List.map_map]
      congr 1
      simp
    rw [e2] at ih ⊢
    refine ⟨?_, ih⟩
    have : h - ((k + 1 : Nat) : Int) + 1 = h - (k : Int) := by omega
    rw [hf _ (by omega), this]
theorem chn_exP (lo hi : List Int) (r : Nat) (s : List Int) (hs : s.length = r) (hle : lo.getD r 0 ≤ hi.getD r 0) : chn (suc lo hi (r + 1)) (exP (lo.getD r 0) (hi.getD r 0) s) ((suc lo hi r s).map (· ++ [lo.getD r 0])) := by
  have h := chn_up (f := suc lo hi (r + 1)) (s := s) (h := hi.getD r 0) (z := (suc lo hi r s).map (· ++ [lo.getD r 0])) (fun n hn => by rw [suc_snoc _ _ _ _ _ hs, if_pos hn]) (by rw [suc_snoc _ _ _ _ _ hs, if_neg (by omega)]) (hi.getD r 0 - lo.getD r 0).toNat
  have e : exP (lo.getD r 0) (hi.getD r 0) s = (List.range ((hi.getD r 0 - lo.getD r 0).toNat + 1)).map (fun (i : Nat) => s ++ [hi.getD r 0 - (((hi.getD r 0 - lo.getD r 0).toNat : Nat) : Int) + (i : Int)]) := by
    unfold exP rng
    rw [List.map_map]
    have e1 : (hi.getD r 0 - lo.getD r 0 + 1).toNat = (hi.getD r 0 - lo.getD r 0).toNat + 1 := by omega
    rw [e1]
    refine List.map_congr_left fun i _ => ?_
    show s ++ [lo.getD r 0 + (i : Int)] = _
    have : hi.getD r 0 - (((hi.getD r 0 - lo.getD r 0).toNat : Nat) : Int) + (i : Int) = lo.getD r 0 + (i : Int) := by omega
    rw [this]
  rw [e]; exact h
theorem exP_head (l h : Int) (s : List Int) (hle : l ≤ h) : ∃ t, exP l h s = (s ++ [l]) :: t := by
  unfold exP rng
  have e1 : (h - l + 1).toNat = (h - l).toNat + 1 := by omega
  rw [e1, List.range_succ_eq_map, List.map_cons, List.map_cons]
  have e0 : l + ((0 : Nat) : Int) = l := by omega
  rw [e0]
  exact ⟨_, rfl⟩
theorem chn_flat (lo hi : List Int) (r : Nat) (hle : lo.getD r 0 ≤ hi.getD r 0) : ∀ (xs : List (List Int)) (z : Option (List Int)), (∀ s ∈ xs, s.length = r) → chn (suc lo hi r) xs z → chn (suc lo hi (r + 1)) (xs.flatMap (exP (lo.getD r 0) (hi.getD r 0))) (z.map (· ++ [lo.getD r 0]))
  | [], z, _, _ => trivial
  | [x], z, hl, h => by
    have := chn_exP lo hi r x (hl x (by simp)) hle
    rw [show suc lo hi r x = z from h] at this
    simpa using this
  | x :: y :: t, z, hl, h => by
    have ih := chn_flat lo hi r hle (y :: t) z (fun s hs => hl s (by simp [hs])) h.2
    have h1 := chn_exP lo hi r x (hl x (by simp)) hle
    rw [h.1] at h1
    rw [List.flatMap_cons]
    obtain ⟨u, hu⟩ := exP_head (lo.getD r 0) (hi.getD r 0) y hle
    have e : (y :: t).flatMap (exP (lo.getD r 0) (hi.getD r 0)) = (y ++ [lo.getD r 0]) :: (u ++ t.flatMap (exP (lo.getD r 0) (hi.getD r 0))) := by rw [List.flatMap_cons, hu]; rfl
    rw [e] at ih ⊢
    exact chn_append h1 ih
theorem exTo_chn (lo hi : List Int) (h4 : lo.length = 4) (hle : ∀ j, j < 4 → lo.getD j 0 ≤ hi.getD j 0) : ∀ r, r ≤ 4 → chn (suc lo hi r) (exTo lo hi r) none ∧ ∃ t, exTo lo hi r = lo.take r :: t
  | 0, _ => ⟨by simp [exTo, chn, suc], [], by simp [exTo]⟩
  | r + 1, hr => by
    obtain ⟨h1, t, h2⟩ := exTo_chn lo hi h4 hle r (by omega)
    have h3 := chn_flat lo hi r (hle r (by omega)) _ none (fun s hs => (exTo_in lo hi r s hs).1) h1
    refine ⟨h3, ?_⟩
    rw [exTo, h2, List.flatMap_cons]
    obtain ⟨u, hu⟩ := exP_head (lo.getD r 0) (hi.getD r 0) (lo.take r) (hle r (by omega))
    obtain ⟨x, hx⟩ := get_of_lt (show r < lo.length by omega)
    have e : lo.take (r + 1) = lo.take r ++ [lo.getD r 0] := by rw [List.take_add_one, hx, getD_of_get hx]; rfl
    exact ⟨_, by rw [hu, e]; rfl⟩
/-- All states of a box. -/
def allS (lo hi : List Int) : List (List Int) := exTo lo hi 4
/-- While the odometer turns: all registers behind r are at the start. -/
def cur (lo : List Int) (s : List Int) (r : Nat) : List Int := s.take r ++ lo.drop r
theorem cur_all (lo s : List Int) (h : s.length = 4) (hl : lo.length = 4) : cur lo s 4 = s := by unfold cur; rw [List.take_of_length_le (by omega), List.drop_eq_nil_of_le (by omega), List.append_nil]
theorem cur_length (lo s : List Int) (h : s.length = 4) (hl : lo.length = 4) {r : Nat} (hr : r ≤ 4) : (cur lo s r).length = 4 := by unfold cur; rw [List.length_append, List.length_take, List.length_drop]; omega
theorem cur_set (lo s : List Int) (h : s.length = 4) (hl : lo.length = 4) {r : Nat} (hr : r < 4) : (cur lo s (r + 1)).set r (lo.getD r 0) = cur lo s r := by
  unfold cur
  refine List.ext_getElem? fun k => ?_
  obtain ⟨x, hx⟩ := get_of_lt (show r < lo.length by omega)
  rw [List.getElem?_set, getD_of_get hx]
  by_cases e : r = k
  · subst e
    rw [if_pos rfl, if_pos (by rw [List.length_append, List.length_take, List.length_drop]; omega), List.getElem?_append_right (by rw [List.length_take]; omega), List.length_take, List.getElem?_drop]
    rw [show r + (r - min r s.length) = r by omega, hx]
  · rw [if_neg e]
    rcases Nat.lt_or_ge k r with hk | hk
    · rw [List.getElem?_append_left (by rw [List.length_take]; omega), List.getElem?_append_left (by rw [List.length_take]; omega), List.getElem?_take_of_lt (by omega), List.getElem?_take_of_lt hk]
    · rw [List.getElem?_append_right (by rw [List.length_take]; omega), List.getElem?_append_right (by rw [List.length_take]; omega), List.length_take, List.length_take, List.getElem?_drop, List.getElem?_drop]
      rw [show r + 1 + (k - min (r + 1) s.length) = k by omega, show r + (k - min r s.length) = k by omega]
theorem cur_get (lo s : List Int) (h : s.length = 4) (hl : lo.length = 4) {r : Nat} (hr : r < 4) : (cur lo s (r + 1)).getD r 0 = s.getD r 0 := by
  unfold cur
  rw [List.getD_eq_getElem?_getD, List.getElem?_append_left (by rw [List.length_take]; omega), List.getElem?_take_of_lt (by omega), ← List.getD_eq_getElem?_getD]
theorem cur_inc (lo s : List Int) (h : s.length = 4) (hl : lo.length = 4) {r : Nat} (hr : r < 4) (v : Int) : (cur lo s (r + 1)).set r v = (s.take r ++ [v]) ++ lo.drop (r + 1) := by
  unfold cur
  have e : s.take (r + 1) = s.take r ++ [s.getD r 0] := by
    obtain ⟨x, hx⟩ := get_of_lt (show r < s.length by omega)
    rw [List.take_add_one, hx, getD_of_get hx]; rfl
  rw [e, List.set_append_left _ _ (by simp; omega), List.set_append_right _ _ (by rw [List.length_take]; omega), List.length_take, show r - min r s.length = 0 by omega]
  rfl
/-- What the next state is, once all behind r have turned. -/
theorem suc_cur (lo hi s : List Int) (h : s.length = 4) (hl : lo.length = 4) : ∀ k r, r + k = 4 → (∀ j, r ≤ j → j < 4 → ¬ s.getD j 0 < hi.getD j 0) → suc lo hi 4 s = (suc lo hi r (s.take r)).map (· ++ lo.drop r)
  | 0, r, hr, _ => by
    obtain rfl : r = 4 := by omega
    rw [List.take_of_length_le (by omega), List.drop_eq_nil_of_le (by omega)]
    simp
  | k + 1, r, hr, hj => by
    rw [suc_cur lo hi s h hl k (r + 1) (by omega) (fun j h1 h2 => hj j (by omega) h2)]
    have e : (s.take (r + 1)).getD r 0 = s.getD r 0 := by rw [List.getD_eq_getElem?_getD, List.getElem?_take_of_lt (by omega), ← List.getD_eq_getElem?_getD]
    have e2 : (s.take (r + 1)).take r = s.take r := by rw [List.take_take, Nat.min_eq_left (by omega)]
    rw [suc, e, e2, if_neg (hj r (Nat.le_refl _) (by omega)), Option.map_map]
    congr 1
    funext t
    obtain ⟨x, hx⟩ := get_of_lt (show r < lo.length by omega)
    have e3 : lo.drop r = lo.getD r 0 :: lo.drop (r + 1) := by
      rw [getD_of_get hx]
      exact (List.drop_eq_getElem_cons (by omega)).trans (by rw [(List.getElem?_eq_some_iff.1 hx).2])
    show t ++ [lo.getD r 0] ++ lo.drop (r + 1) = t ++ lo.drop r
    rw [e3]; simp
theorem suc_step (lo hi s : List Int) (h : s.length = 4) (hl : lo.length = 4) {r : Nat} (hr : r < 4) (hj : ∀ j, r < j → j < 4 → ¬ s.getD j 0 < hi.getD j 0) (hlt : s.getD r 0 < hi.getD r 0) : suc lo hi 4 s = some ((cur lo s (r + 1)).set r (s.getD r 0 + 1)) := by
  rw [suc_cur lo hi s h hl (3 - r) (r + 1) (by omega) (fun j h1 h2 => hj j (by omega) h2), cur_inc lo s h hl hr]
  have e : (s.take (r + 1)).getD r 0 = s.getD r 0 := by rw [List.getD_eq_getElem?_getD, List.getElem?_take_of_lt (by omega), ← List.getD_eq_getElem?_getD]
  have e2 : (s.take (r + 1)).take r = s.take r := by rw [List.take_take, Nat.min_eq_left (by omega)]
  rw [suc, e, e2, if_pos hlt]; rfl
theorem suc_end (lo hi s : List Int) (h : s.length = 4) (hl : lo.length = 4) (hj : ∀ j, j < 4 → ¬ s.getD j 0 < hi.getD j 0) : suc lo hi 4 s = none := by
  rw [suc_cur lo hi s h hl 4 0 rfl (fun j _ h2 => hj j h2)]; rfl

end Tinker

/- Lists of lists of numbers in memory. -/
set_option linter.unusedVariables false
set_option linter.unusedSimpArgs false
namespace Go.Proofs.Ytmpgaccpdglhkaa
open Go.RowKit Tinker

/-- A slice's address leads to these lists. -/
def RowsAt (w : World) (g : Option Addr) (fs : List (List Int)) : Prop :=
  fs = [] ∨ ∃ b off, g = some ⟨b, off, none⟩ ∧ b < w.heap.size ∧ ∀ j zs, fs[j]? = some zs → ∃ a c, w.cell? ⟨b, off + j, none⟩ = some (.slice a zs.length c) ∧ IntsAt w a zs
theorem RowsAt.below {w w' : World} {B : Nat} {g : Option Addr} {fs : List (List Int)} (h : RowsAt w g fs) (hb : Below B w w') (hB : w.heap.size ≤ B) : RowsAt w' g fs := by
  rcases h with h | ⟨b, off, e, hlt, hc⟩
  · exact .inl h
  · refine .inr ⟨b, off, e, Nat.lt_of_lt_of_le hlt hb.size, fun j zs hj => ?_⟩
    obtain ⟨a, c, h0, h1⟩ := hc j zs hj
    exact ⟨a, c, (hb.cell (p := ⟨b, _, none⟩) (by show b < B; omega)).trans h0, h1.below hb hB⟩
theorem RowsAt.at_ {w : World} {g : Option Addr} {fs : List (List Int)} (h : RowsAt w g fs) {k : Nat} (hk : k < fs.length) : ∃ b off zs a c, g = some ⟨b, off, none⟩ ∧ b < w.heap.size ∧ fs[k]? = some zs ∧ w.cell? ⟨b, off + k, none⟩ = some (.slice a zs.length c) ∧ IntsAt w a zs := by
  obtain ⟨b, off, e, hlb, hc⟩ := h.resolve_left (by rintro rfl; simp at hk)
  obtain ⟨zs, hz⟩ := get_of_lt hk
  obtain ⟨a, c, h0, h1⟩ := hc k zs hz
  exact ⟨b, off, zs, a, c, e, hlb, hz, h0, h1⟩

/-- A list in a block of the call's own, from base on, that is not block o. -/
def OwnL (W : World) (base : Nat) (o : Option Nat) (a : Option Addr) (zs : List Int) : Prop := zs = [] ∨ ∃ b, a = some ⟨b, 0, none⟩ ∧ base ≤ b ∧ o ≠ some b ∧ BInts W b zs
theorem OwnL.at_ {W : World} {base : Nat} {o : Option Nat} {a : Option Addr} {zs : List Int} (h : OwnL W base o a zs) : IntsAt W a zs := by
  rcases h with h | ⟨b, rfl, _, _, hb⟩
  · exact .inl h
  · exact hb.at_
theorem OwnL.same {W W' : World} {base : Nat} {o : Option Nat} {a : Option Addr} {zs : List Int} (h : OwnL W base o a zs) (e : ∀ b, b < W.heap.size → base ≤ b → o ≠ some b → W'.heap[b]? = W.heap[b]?) : OwnL W' base o a zs := by
  rcases h with h | ⟨b, h1, h2, h3, h4⟩
  · exact .inl h
  · exact .inr ⟨b, h1, h2, h3, h4.same (e b h4.lt h2 h3)⟩
theorem OwnL.low {W W' : World} {base : Nat} {o : Option Nat} {a : Option Addr} {zs : List Int} (h : OwnL W base o a zs) (hb : Below W.heap.size W W') : OwnL W' base o a zs := h.same fun b hlt _ _ => hb.block b hlt
theorem OwnL.free {W : World} {base : Nat} {o : Option Nat} {a : Option Addr} {zs : List Int} (h : OwnL W base o a zs) {o' : Option Nat} (ho : ∀ b, b < W.heap.size → o ≠ some b → o' ≠ some b) : OwnL W base o' a zs := by
  rcases h with h | ⟨b, h1, h2, h3, h4⟩
  · exact .inl h
  · exact .inr ⟨b, h1, h2, ho b h4.lt h3, h4⟩
theorem OwnL.wide {W : World} {base base' : Nat} {o : Option Nat} {a : Option Addr} {zs : List Int} (h : OwnL W base o a zs) (hb : base' ≤ base) : OwnL W base' o a zs := by
  rcases h with h | ⟨b, h1, h2, h3, h4⟩
  · exact .inl h
  · exact .inr ⟨b, h1, by omega, h3, h4⟩
theorem ownL_of {W : World} {base : Nat} {e : TypeId} {a : Option Addr} {n c : Nat} {zs : List Int} (h : W.ownsRow base e 1 (.slice a n c) n (zs.map (Value.int .i64))) : OwnL W base none a zs := by
  rcases Nat.eq_zero_or_pos n with h0 | h0
  · have := (ints_of_own h).2
    exact .inl (List.eq_nil_of_length_eq_zero (by omega))
  · obtain ⟨g, e'⟩ := own_form h h0
    subst e'
    exact .inr ⟨g, rfl, own_base' h, by simp, bints_of_own h⟩

/-- The cells of lists. -/
def RowC (W : World) (base : Nat) (o : Option Nat) (fs : List (List Int)) (xs : List Value) : Prop :=
  ∀ (k : Nat) (zs : List Int), fs[k]? = some zs → ∃ (a : Option Addr) (c : Nat), xs[k]? = some (Value.slice a zs.length c) ∧ OwnL W base o a zs
theorem RowC.same {W W' : World} {base : Nat} {o : Option Nat} {fs : List (List Int)} {xs : List Value} (h : RowC W base o fs xs) (e : ∀ b, b < W.heap.size → base ≤ b → o ≠ some b → W'.heap[b]? = W.heap[b]?) : RowC W' base o fs xs :=
  fun k zs hk => by
    obtain ⟨a, c, h1, h2⟩ := h k zs hk
    exact ⟨a, c, h1, h2.same e⟩
/-- An own list of own lists. -/
structure RowsI (w : World) (v : Value) (fs : List (List Int)) (xs : List Value) (W : World) : Prop where
  out : W.ownsRow w.heap.size 34 1 v fs.length xs
  st : RowC W w.heap.size v.ownBlock fs xs
  below : Below w.heap.size w W
theorem RowsI.low {w : World} {v : Value} {fs : List (List Int)} {xs : List Value} {W W' : World} (h : RowsI w v fs xs W) (hb : Below W.heap.size W W') : RowsI w v fs xs W' :=
  ⟨own_below h.out hb (Nat.le_refl _), h.st.same fun b hlt _ _ => hb.block b hlt, h.below.trans (hb.mono h.below.size)⟩
theorem RowsI.nil {w W : World} (hb : Below w.heap.size w W) : RowsI w (.slice none 0 0) [] [] W := ⟨World.ownsRow_nil _ _ _ _, fun k zs hk => by simp at hk, hb⟩
theorem RowsI.push {w : World} {v v' : Value} {fs : List (List Int)} {xs : List Value} {W W3 : World} {a : Option Addr} {c : Nat} {zs : List Int} (h : RowsI w v fs xs W) (hz : OwnL W w.heap.size v.ownBlock a zs)
    (hown : W3.ownsRow w.heap.size 34 1 v' (fs.length + 1) (xs ++ [.slice a zs.length c])) (hgrow : W.grownBy W3 v.ownBlock) (hat : v'.ownBlock = v.ownBlock ∨ v'.ownBlock = some W.heap.size) :
    RowsI w v' (fs ++ [zs]) (xs ++ [.slice a zs.length c]) W3 := by
  have hx : xs.length = fs.length := by simpa using h.out.1
  have hne' : ∀ q, q < W.heap.size → v.ownBlock ≠ some q → v'.ownBlock ≠ some q := fun q hq h1 h2 => by
    rcases hat with e | e
    · exact h1 (e.symm.trans h2)
    · rw [e] at h2; injection h2 with h2; omega
  have hsame : ∀ {a : Option Addr} {zs : List Int}, OwnL W w.heap.size v.ownBlock a zs → OwnL W3 w.heap.size v'.ownBlock a zs := fun {a zs} h1 => by
    rcases h1 with h1 | ⟨b, h1, h2, h3, h4⟩
    · exact .inl h1
    · exact .inr ⟨b, h1, h2, hne' b h4.lt h3, h4.same (hgrow.block b h4.lt (fun e => h3 e.symm))⟩
  refine ⟨by simpa using hown, ?_, h.below.grown hgrow h.below.size (fun k hk => by have := (h.out.lt k hk).1; omega)⟩
  intro k t hk
  rcases Nat.lt_or_ge k fs.length with hlt | hge
  · rw [List.getElem?_append_left hlt] at hk
    obtain ⟨a', c', h1, h2⟩ := h.st k t hk
    exact ⟨a', c', by rw [List.getElem?_append_left (by omega)]; exact h1, hsame h2⟩
  · rw [List.getElem?_append_right hge] at hk
    have hk0 : k = fs.length := by
      have := (List.getElem?_eq_some_iff.1 hk).1
      simp at this; omega
    subst hk0
    simp at hk
    subst hk
    exact ⟨a, c, by rw [List.getElem?_append_right (by omega), hx]; simp, hsame hz⟩
theorem RowsI.at_ {w : World} {a : Option Addr} {n c : Nat} {fs : List (List Int)} {xs : List Value} {W : World} (h : RowsI w (.slice a n c) fs xs W) : RowsAt W a fs ∧ fs.length = n := by
  have hn : xs.length = n := by
    rcases h.out.2 with ⟨he, hx⟩ | ⟨g, cap, cur, he, _⟩
    · injection he with _ h1 _
      have := h.out.1
      simp at this
      omega
    · injection he with _ h1 _
      have := h.out.1
      simp at this
      omega
  have hl : xs.length = fs.length := by simpa using h.out.1
  refine ⟨?_, by omega⟩
  rcases Nat.eq_zero_or_pos fs.length with h0 | h0
  · exact .inl (List.eq_nil_of_length_eq_zero h0)
  · obtain rfl : fs.length = n := by omega
    obtain ⟨g, hg⟩ := own_form h.out h0
    subst hg
    refine .inr ⟨g, 0, rfl, own_lt h.out, fun j zs hj => ?_⟩
    obtain ⟨a', c', h1, h2⟩ := h.st j zs hj
    exact ⟨a', c', by rw [Nat.zero_add]; exact own_cell h.out h1, h2.at_⟩

/-- Lists in memory, and a code. -/
def GivesRowsE (fs : List (List Int)) (c : Int) (w : World) (e : Ending) (w' : World) : Prop :=
  ∃ a cap, e = .returned (.tuple #[.slice a fs.length cap, .int .i64 c]) ∧ RowsAt w' a fs ∧ Below w.heap.size w w'
def GivesRows (fs : List (List Int)) (w : World) (e : Ending) (w' : World) : Prop :=
  ∃ a cap, e = .returned (.slice a fs.length cap) ∧ RowsAt w' a fs ∧ Below w.heap.size w w'
theorem givesRowsE_nil {c : Int} {w w' : World} (hB : Below w.heap.size w w') : GivesRowsE [] c w (.returned (.tuple #[.slice none 0 0, .int .i64 c])) w' := ⟨none, 0, rfl, .inl rfl, hB⟩
theorem RowsI.gives {w : World} {v : Value} {fs : List (List Int)} {xs : List Value} {W : World} (h : RowsI w v fs xs W) : GivesRows fs w (.returned v) W := by
  obtain ⟨a, c, rfl⟩ := own_slice h.out
  exact ⟨a, c, rfl, h.at_.1, h.below⟩

theorem info_ints : (Try.prog.info? 34).map (fun i => (i.zero, i.size, i.bytes)) = some (some (.slice none 0 0), 1, 24) := by kernel_rfl

end Go.Proofs.Ytmpgaccpdglhkaa

/- The states of a box: how many; lists of lists that begin with the list of nothing. -/
set_option linter.unusedVariables false
set_option linter.unusedSimpArgs false
namespace Go.Proofs.Ytmpgaccpdglhkaa
open Go.RowKit Tinker

theorem flat_len {f : List Int → List (List Int)} {m : Nat} : ∀ {xs : List (List Int)}, (∀ x ∈ xs, (f x).length = m) → (xs.flatMap f).length = xs.length * m
  | [], _ => by simp
  | x :: t, h => by
    rw [List.flatMap_cons, List.length_append, h x (by simp), flat_len (xs := t) (fun y hy => h y (List.mem_cons_of_mem _ hy)), List.length_cons, Nat.succ_mul, Nat.add_comm]
theorem exTo_succ (lo hi : List Int) (r : Nat) : exTo lo hi (r + 1) = (exTo lo hi r).flatMap (Tinker.exP (lo.getD r 0) (hi.getD r 0)) := rfl
theorem exTo_len_succ (lo hi : List Int) (r : Nat) : (exTo lo hi (r + 1)).length = (exTo lo hi r).length * (hi.getD r 0 - lo.getD r 0 + 1).toNat := by
  rw [exTo_succ, flat_len (fun x _ => exP_length _ _ _)]
theorem exTo_len {lo hi : List Int} : ∀ r, (∀ j, j < r → lo.getD j 0 ≤ hi.getD j 0) → ((exTo lo hi r).length : Int) = prd lo hi r
  | 0, _ => rfl
  | r + 1, h => by
    have ih := exTo_len (lo := lo) (hi := hi) r (fun j hj => h j (by omega))
    have hr := h r (by omega)
    rw [exTo_len_succ, prd, ← ih]
    rw [Int.natCast_mul, Int.toNat_of_nonneg (by omega)]
theorem exTo_mono {lo hi : List Int} (h : ∀ j, j < 4 → lo.getD j 0 ≤ hi.getD j 0) {r : Nat} (hr : r < 4) : (exTo lo hi r).length ≤ (exTo lo hi (r + 1)).length := by
  have := h r hr
  rw [exTo_len_succ]
  exact Nat.le_mul_of_pos_right _ (by omega)
theorem exTo_le {lo hi : List Int} (h : ∀ j, j < 4 → lo.getD j 0 ≤ hi.getD j 0) (hN : (allS lo hi).length ≤ 400) {r : Nat} (hr : r ≤ 4) : (exTo lo hi r).length ≤ 400 := by
  have h3 : (exTo lo hi 3).length ≤ (exTo lo hi 4).length := exTo_mono h (r := 3) (by omega)
  have h2 : (exTo lo hi 2).length ≤ (exTo lo hi 3).length := exTo_mono h (r := 2) (by omega)
  have h1 : (exTo lo hi 1).length ≤ (exTo lo hi 2).length := exTo_mono h (r := 1) (by omega)
  have h0 : (exTo lo hi 0).length ≤ (exTo lo hi 1).length := exTo_mono h (r := 0) (by omega)
  have h4 : (exTo lo hi 4).length ≤ 400 := hN
  match r, hr with
  | 0, _ => omega
  | 1, _ => omega
  | 2, _ => omega
  | 3, _ => omega
  | 4, _ => omega
theorem take_flat {f : List Int → List (List Int)} {xs : List (List Int)} {i : Nat} {s : List Int} (h : xs[i]? = some s) : (xs.take (i + 1)).flatMap f = (xs.take i).flatMap f ++ f s := by
  rw [List.take_add_one, h]
  simp [List.flatMap_append]
theorem take_flat_le {f : List Int → List (List Int)} {m : Nat} {xs : List (List Int)} (hf : ∀ x ∈ xs, (f x).length = m) {i : Nat} (hi : i < xs.length) : ((xs.take i).flatMap f).length + m ≤ (xs.flatMap f).length := by
  rw [flat_len hf, flat_len (fun x hx => hf x (List.mem_of_mem_take hx)), List.length_take, Nat.min_eq_left (by omega), ← Nat.succ_mul]
  exact Nat.mul_le_mul_right _ (by omega)
theorem exP_take {l h : Int} {s : List Int} {k : Nat} (hk : k < (h - l + 1).toNat) : (Tinker.exP l h s).take (k + 1) = (Tinker.exP l h s).take k ++ [s ++ [l + (k : Int)]] := by
  have e : (Tinker.exP l h s)[k]? = some (s ++ [l + (k : Int)]) := by unfold Tinker.exP; rw [List.getElem?_map, rng_get hk]; rfl
  rw [List.take_add_one, e]
  rfl

/-- Lists of the same length r, in memory: of length 0 there is one, and it is the null value. -/
def RowsZ (W : World) (a : Option Addr) (r : Nat) (fs : List (List Int)) : Prop :=
  (r = 0 ∧ fs = [[]] ∧ ∃ b, a = some ⟨b, 0, none⟩ ∧ b < W.heap.size ∧ W.cell? ⟨b, 0, none⟩ = some (.slice none 0 0)) ∨ (0 < r ∧ RowsAt W a fs)
theorem RowsZ.below {w w' : World} {B : Nat} {a : Option Addr} {r : Nat} {fs : List (List Int)} (h : RowsZ w a r fs) (hb : Below B w w') (hB : w.heap.size ≤ B) : RowsZ w' a r fs := by
  rcases h with ⟨h1, h2, b, h3, h4, h5⟩ | ⟨h1, h2⟩
  · exact .inl ⟨h1, h2, b, h3, Nat.lt_of_lt_of_le h4 hb.size, (hb.cell (p := ⟨b, 0, none⟩) (by show b < B; omega)).trans h5⟩
  · exact .inr ⟨h1, h2.below hb hB⟩
theorem RowsZ.at_ {W : World} {a : Option Addr} {r : Nat} {fs : List (List Int)} (h : RowsZ W a r fs) (hl : ∀ s ∈ fs, s.length = r) {k : Nat} (hk : k < fs.length) :
    ∃ b off zs a' c', a = some ⟨b, off, none⟩ ∧ b < W.heap.size ∧ fs[k]? = some zs ∧ W.cell? ⟨b, off + k, none⟩ = some (.slice a' zs.length c') ∧ IntsAt W a' zs ∧ ((zs = [] ∧ a' = none ∧ c' = 0) ∨ ∃ q, a' = some q) := by
  rcases h with ⟨h1, h2, b, h3, h4, h5⟩ | ⟨h1, h2⟩
  · subst h2
    obtain rfl : k = 0 := by simp at hk; omega
    exact ⟨b, 0, [], none, 0, h3, h4, rfl, h5, .inl rfl, .inl ⟨rfl, rfl, rfl⟩⟩
  · obtain ⟨b, off, zs, a', c', h3, h4, h5, h6, h7⟩ := h2.at_ hk
    have hz := hl zs (mem_of_get h5)
    obtain ⟨q, o, e, _⟩ := h7.resolve_left (by rintro rfl; simp at hz; omega)
    exact ⟨b, off, zs, a', c', h3, h4, h5, h6, h7, .inr ⟨_, e⟩⟩
theorem RowsZ.rows {W : World} {a : Option Addr} {r : Nat} {fs : List (List Int)} (h : RowsZ W a r fs) (hr : 0 < r) : RowsAt W a fs := by
  rcases h with ⟨h1, _⟩ | ⟨_, h2⟩
  · omega
  · exact h2
theorem OwnL.apart {W : World} {base : Nat} {o : Option Nat} {a : Option Addr} {zs : List Int} (h : OwnL W base none a zs) (ho : ∀ b, base ≤ b → o ≠ some b) : OwnL W base o a zs := by
  rcases h with h | ⟨b, h1, h2, h3, h4⟩
  · exact .inl h
  · exact .inr ⟨b, h1, h2, ho b h2, h4⟩

end Go.Proofs.Ytmpgaccpdglhkaa

/- An own list of lists that were there before. -/
set_option linter.unusedVariables false
set_option linter.unusedSimpArgs false
namespace Go.Proofs.Ytmpgaccpdglhkaa
open Go.RowKit Tinker

/-- An own list of lists of an older world. -/
structure RowsV (w : World) (v : Value) (fs : List (List Int)) (xs : List Value) (W : World) : Prop where
  own : W.ownsRow w.heap.size 34 1 v fs.length xs
  row : ∀ (k : Nat) (zs : List Int), fs[k]? = some zs → ∃ (a : Option Addr) (c : Nat), xs[k]? = some (Value.slice a zs.length c) ∧ IntsAt w a zs
  below : Below w.heap.size w W
theorem RowsV.low {w : World} {v : Value} {fs : List (List Int)} {xs : List Value} {W W' : World} (h : RowsV w v fs xs W) (hb : Below W.heap.size W W') : RowsV w v fs xs W' :=
  ⟨own_below h.own hb (Nat.le_refl _), h.row, h.below.trans (hb.mono h.below.size)⟩
theorem RowsV.nil {w W : World} (hb : Below w.heap.size w W) : RowsV w (.slice none 0 0) [] [] W := ⟨World.ownsRow_nil _ _ _ _, fun k zs hk => by simp at hk, hb⟩
theorem RowsV.push {w : World} {v v' : Value} {fs : List (List Int)} {xs : List Value} {W W3 : World} {a : Option Addr} {c : Nat} {zs : List Int} (h : RowsV w v fs xs W) (hz : IntsAt w a zs)
    (hown : W3.ownsRow w.heap.size 34 1 v' (fs.length + 1) (xs ++ [.slice a zs.length c])) (hgrow : W.grownBy W3 v.ownBlock) :
    RowsV w v' (fs ++ [zs]) (xs ++ [.slice a zs.length c]) W3 := by
  have hx : xs.length = fs.length := by simpa using h.own.1
  refine ⟨by simpa using hown, ?_, h.below.grown hgrow h.below.size (fun k hk => by have := (h.own.lt k hk).1; omega)⟩
  intro k t hk
  rcases Nat.lt_or_ge k fs.length with hlt | hge
  · rw [List.getElem?_append_left hlt] at hk
    obtain ⟨a', c', h1, h2⟩ := h.row k t hk
    exact ⟨a', c', by rw [List.getElem?_append_left (by omega)]; exact h1, h2⟩
  · rw [List.getElem?_append_right hge] at hk
    have hk0 : k = fs.length := by
      have := (List.getElem?_eq_some_iff.1 hk).1
      simp at this; omega
    subst hk0
    simp at hk
    subst hk
    exact ⟨a, c, by rw [List.getElem?_append_right (by omega), hx]; simp, hz⟩
theorem RowsV.at_ {w : World} {a : Option Addr} {n c : Nat} {fs : List (List Int)} {xs : List Value} {W : World} (h : RowsV w (.slice a n c) fs xs W) : RowsAt W a fs ∧ fs.length = n := by
  have hn : xs.length = n := by
    rcases h.own.2 with ⟨he, hx⟩ | ⟨g, cap, cur, he, _⟩
    · injection he with _ h1 _
      have := h.own.1
      simp at this
      omega
    · injection he with _ h1 _
      have := h.own.1
      simp at this
      omega
  have hl : xs.length = fs.length := by simpa using h.own.1
  refine ⟨?_, by omega⟩
  rcases Nat.eq_zero_or_pos fs.length with h0 | h0
  · exact .inl (List.eq_nil_of_length_eq_zero h0)
  · obtain rfl : fs.length = n := by omega
    obtain ⟨g, hg⟩ := own_form h.own h0
    subst hg
    refine .inr ⟨g, 0, rfl, own_lt h.own, fun j zs hj => ?_⟩
    obtain ⟨a', c', h1, h2⟩ := h.row j zs hj
    exact ⟨a', c', by rw [Nat.zero_add]; exact own_cell h.own h1, h2.below h.below (Nat.le_refl _)⟩
theorem RowsV.gives {w : World} {v : Value} {fs : List (List Int)} {xs : List Value} {W : World} (h : RowsV w v fs xs W) : GivesRows fs w (.returned v) W := by
  obtain ⟨a, c, rfl⟩ := own_slice h.own
  exact ⟨a, c, rfl, h.at_.1, h.below⟩

end Go.Proofs.Ytmpgaccpdglhkaa
