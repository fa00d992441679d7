/- Several texts in one. -/
import Derived.Test.YtikblaebfpdngaaMpD
import Derived.Test.YtikblaebfpdngaaEdO
import Derived.Test.YtikblaebfpdngaaRd4
import Derived.Test.YtikblaebfpdngaaPtY
import Derived.BigQuiet
/- Touches and Keep of patches: plain mathematics, the code's contracts. -/
set_option linter.unusedVariables false
set_option linter.unusedSimpArgs false
namespace Go.Proofs.Ytikblaebfpdngaa
open Go.RowKit Go.Maps Tinker

/-- The places that a patch touches. -/
def tcR (xs : List E) : List Int := if vx xs = 0 then pl xs else []
/-- What a call hands over: numbers, and a code. -/
def HandsI (zs : List Int) (c : Int) (w : World) (e : Ending) (w' : World) : Prop :=
  ∃ a cap, e = .returned (.tuple #[.slice a zs.length cap, .int .i64 c]) ∧ IntsAt w' a zs ∧ Below w.heap.size w w'
/-- The edits at places, what Keep answers. -/
def kpF (xs : List E) (zs : List Int) (i : Int) : Option L := if i ∈ zs then atX xs i else none
def kpL (xs : List E) (zs : List Int) : List E := xs.filter fun e => zs.contains e.at_
def kpC (xs : List E) (zs : List Int) : Int := if vx xs = 0 then (if isSetB zs && allBtw zs 0 7 then 0 else 1) else vx xs
def kpR (xs : List E) (zs : List Int) : List E := if kpC xs zs = 0 then kpL xs zs else []
theorem kp_1 {xs : List E} {zs : List Int} (h : vx xs ≠ 0) : kpC xs zs = vx xs ∧ kpR xs zs = [] := by
  have : kpC xs zs = vx xs := by unfold kpC; rw [if_neg h]
  exact ⟨this, by unfold kpR; rw [this, if_neg h]⟩
theorem kp_2 {xs : List E} {zs : List Int} (h : vx xs = 0) (h2 : (isSetB zs && allBtw zs 0 7) = false) : kpC xs zs = 1 ∧ kpR xs zs = [] := by
  have : kpC xs zs = 1 := by unfold kpC; rw [if_pos h, h2]; rfl
  exact ⟨this, by unfold kpR; rw [this, if_neg (by decide)]⟩
theorem kp_0 {xs : List E} {zs : List Int} (h : vx xs = 0) (h2 : (isSetB zs && allBtw zs 0 7) = true) : kpC xs zs = 0 ∧ kpR xs zs = kpL xs zs := by
  have : kpC xs zs = 0 := by unfold kpC; rw [if_pos h, h2]; rfl
  exact ⟨this, by unfold kpR; rw [this, if_pos rfl]⟩
theorem kp_len (xs : List E) (zs : List Int) : (kpR xs zs).length ≤ xs.length := by
  unfold kpR
  split
  · unfold kpL; exact List.length_filter_le _ _
  · simp
theorem kpL_mpL {xs : List E} {zs : List Int} (h : vx xs = 0) : mpL (kpF xs zs) = kpL xs zs := by
  obtain ⟨h1, h2, h3⟩ := vx_ok h
  have hd := dist_of h2
  refine ext_dist (mpL_dist _) (by unfold kpL; exact List.Pairwise.filter _ hd) fun e => ?_
  rw [mpL_mem]
  unfold kpL kpF
  rw [List.mem_filter, List.contains_iff_mem]
  constructor
  · rintro ⟨_, h4⟩
    by_cases hm : e.at_ ∈ zs
    · rw [if_pos hm] at h4
      obtain ⟨z, hz, h5, h6⟩ := atX_some h4
      have : z = e := by cases z; cases e; simp_all
      exact ⟨this ▸ hz, hm⟩
    · rw [if_neg hm] at h4; cases h4
  · rintro ⟨h4, hm⟩
    exact ⟨(h3 e h4).1, by rw [if_pos hm]; exact atX_mem hd h4⟩
theorem kp_all {xs : List E} (h : vx xs = 0) : kpC xs (pl xs) = 0 ∧ kpR xs (pl xs) = xs := by
  obtain ⟨h1, h2, h3⟩ := vx_ok h
  have hb : allBtw (pl xs) 0 7 = true := allBtw_of fun n hn => by obtain ⟨e, he, rfl⟩ := List.mem_map.1 hn; exact (h3 e he).1
  obtain ⟨e1, e2⟩ := kp_0 (zs := pl xs) h (by rw [h2, hb]; rfl)
  refine ⟨e1, ?_⟩
  rw [e2]
  unfold kpL
  rw [List.filter_eq_self]
  intro e he
  rw [List.contains_iff_mem]
  exact List.mem_map.2 ⟨e, he, rfl⟩
theorem kpF_step {xs : List E} {zs : List Int} {k : Nat} {z : Int} (h : zs[k]? = some z) (j : Int) : kpF xs (zs.take (k + 1)) j = if z = j then atX xs z else kpF xs (zs.take k) j := by
  unfold kpF
  rw [List.take_add_one, h]
  by_cases hzj : z = j
  · subst hzj
    rw [if_pos rfl, if_pos (by simp)]
  · rw [if_neg hzj]
    have : (j ∈ zs.take k ++ (some z).toList) ↔ j ∈ zs.take k := by simp; exact fun h => absurd h.symm hzj
    simp only [this]
theorem kpF_no {xs : List E} {zs : List Int} {k : Nat} {z : Int} (h : zs[k]? = some z) (hn : atX xs z = none) : kpF xs (zs.take (k + 1)) = kpF xs (zs.take k) := by
  funext j
  rw [kpF_step h]
  by_cases hzj : z = j
  · rw [if_pos hzj, hn]
    subst hzj
    unfold kpF
    rw [hn]
    split <;> rfl
  · rw [if_neg hzj]

set_option maxRecDepth 100000 in
set_option maxHeartbeats 1000000 in
theorem pTouches_any (a : Option Addr) (ca : Nat) (xs : List E) (w : World) (hx : EditsAt w a xs) (hm : xs.length ≤ 1000) :
    Calls Try.prog 68 #[.slice a xs.length ca] w (HandsI (tcR xs) (vx xs) w) := by
  have H1 := Lib.hid (fun w hx => pValidate_any a ca xs w hx hm)
  by_cases hz : vx xs = 0
  · have h4 := (vx_ok hz).1
    have HP := Lib.hid (fun w hx => pPlaces_any a ca xs w hx h4)
    have HE := Lib.hid (show tcR xs = pl xs by unfold tcR; rw [if_pos hz])
    have HL := Lib.hid (show xs.length = (pl xs).length by unfold pl; rw [List.length_map])
    rw [HE.out, hz]
    rw [hz] at H1
    clear hz HE
    go_enter Try.func68, Try.ntmps68
    go_wp2_with fail
    refine (H1.out _ hx).mono ?_
    rintro e w1 ⟨rfl, hB⟩
    have HB := Lib.hid hB
    clear hB
    go_wp2_with fail
    refine (HP.out _ (hx.below HB.out (Nat.le_refl _))).mono ?_
    rintro e w2 ⟨rfl, hI, _⟩
    have HI := Lib.hid hI.ints
    have HB2 := Lib.hid (HB.out.trans (hI.below.mono HB.out.size))
    clear hI
    go_wp2_with fail
    go_ret2
    exact ⟨_, _, by rw [← HL.out]; rfl, HI.out, HB2.out⟩
  · have HE := Lib.hid (show tcR xs = [] by unfold tcR; rw [if_neg hz])
    rw [HE.out]
    have hz1 : (vx xs != 0) = true := by simpa using hz
    clear hz HE
    generalize vx xs = c at H1 hz1 ⊢
    go_enter Try.func68, Try.ntmps68
    go_wp2_with fail
    refine (H1.out _ hx).mono ?_
    rintro e w1 ⟨rfl, hB⟩
    have HB := Lib.hid hB
    clear hB
    go_wp2_with fail
    go_ret2
    exact ⟨none, 0, rfl, .inl rfl, HB.out⟩

end Go.Proofs.Ytikblaebfpdngaa

/- Touches and Keep of the document's side (patches): contracts. -/
set_option linter.unusedVariables false
set_option linter.unusedSimpArgs false
namespace Go.Proofs.Ytikblaebfpdngaa
open Go.RowKit Tinker

theorem pl_step {xs : List E} {k : Nat} {e : E} (h : xs[k]? = some e) : pl (xs.take (k + 1)) = pl (xs.take k) ++ [e.at_] := by
  rw [List.take_add_one, h]
  unfold pl
  rw [List.map_append]
  rfl

end Go.Proofs.Ytikblaebfpdngaa

/- Keep of the document's side (patches): contract. -/
set_option linter.unusedVariables false
set_option linter.unusedSimpArgs false
namespace Go.Proofs.Ytikblaebfpdngaa
open Go.RowKit Tinker

theorem below_drewN5 {B : Nat} {a w : World} (h : Below B a w) (n : Nat) : Below B a (w.drewN n) := h.trans ⟨rfl, rfl, rfl, Nat.le_refl _, fun _ _ => rfl⟩
/-- Which places are in a list. -/
def inA (zs : List Int) : Array Value := #[.bool (zs.contains 0), .bool (zs.contains 1), .bool (zs.contains 2), .bool (zs.contains 3), .bool (zs.contains 4), .bool (zs.contains 5), .bool (zs.contains 6), .bool (zs.contains 7)]
theorem inA_snoc (zs : List Int) (z : Int) (i : Int) : (zs ++ [z]).contains i = (zs.contains i || i == z) := by
  rw [Bool.eq_iff_iff]
  simp
/-- The first k places are as they must be. -/
def kpTo (zs : List Int) (k : Nat) : Prop := isSetB (zs.take k) = true ∧ (zs.take k).all (btw · 0 7) = true
theorem kpTo_step {zs : List Int} {k : Nat} {z : Int} (h : kpTo zs k) (hz : zs[k]? = some z) (h1 : 0 ≤ z) (h2 : z < 8) (h3 : ∀ q y, k = q + 1 → zs[q]? = some y → y < z) : kpTo zs (k + 1) := by
  have hk : k < zs.length := (List.getElem?_eq_some_iff.1 hz).1
  refine ⟨?_, all_snoc h.2 hz (btw_true.2 ⟨h1, by omega⟩)⟩
  rw [List.take_add_one, hz]
  refine set_snoc h.1 fun y hy => ?_
  rw [List.length_take, Nat.min_eq_left (by omega)] at hy
  cases k with
  | zero => simp at hy
  | succ q =>
    refine h3 q y rfl ?_
    rw [List.getElem?_take] at hy
    split at hy
    · simpa using hy
    · cases hy
theorem kp_bad {zs : List Int} {k : Nat} {z : Int} (hz : zs[k]? = some z) (h : z < 0 ∨ 8 ≤ z) : (isSetB zs && allBtw zs 0 7) = false := by
  cases hb : allBtw zs 0 7
  · rw [Bool.and_false]
  · have := allBtw_at hb (mem_of_get hz); omega
theorem kp_row {zs : List Int} {q : Nat} {y z : Int} (hy : zs[q]? = some y) (hz : zs[q + 1]? = some z) (h : z ≤ y) : (isSetB zs && allBtw zs 0 7) = false := by
  rw [isSetB_no hy hz h]; rfl
theorem kp_yes {xs : List E} {zs : List Int} {k : Nat} {e : E} (he : xs[k]? = some e) (h : zs.contains e.at_ = true) : kpL (xs.take (k + 1)) zs = kpL (xs.take k) zs ++ [e] := by
  unfold kpL
  rw [List.take_add_one, he, List.filter_append]
  show _ ++ [e].filter _ = _
  rw [List.filter_cons, h]
  rfl
theorem kp_no {xs : List E} {zs : List Int} {k : Nat} {e : E} (he : xs[k]? = some e) (h : zs.contains e.at_ = false) : kpL (xs.take (k + 1)) zs = kpL (xs.take k) zs := by
  unfold kpL
  rw [List.take_add_one, he, List.filter_append]
  show _ ++ [e].filter _ = _
  rw [List.filter_cons, h]
  show _ ++ [] = _
  rw [List.append_nil]
theorem kpL_len (xs : List E) (zs : List Int) : (kpL xs zs).length ≤ xs.length := by unfold kpL; exact List.length_filter_le _ _
theorem inA_get (zs : List Int) {z : Int} (h0 : 0 ≤ z) (h7 : z ≤ 7) : (inA zs)[z.toNat]? = some (.bool (zs.contains z)) := by
  have : z = 0 ∨ z = 1 ∨ z = 2 ∨ z = 3 ∨ z = 4 ∨ z = 5 ∨ z = 6 ∨ z = 7 := by omega
  rcases this with rfl | rfl | rfl | rfl | rfl | rfl | rfl | rfl <;> rfl
theorem inA_put {zs : List Int} {k : Nat} {z : Int} (hz : zs[k]? = some z) (h0 : 0 ≤ z) (h7 : z ≤ 7) : (inA (zs.take k)).setIfInBounds z.toNat (.bool true) = inA (zs.take (k + 1)) := by
  rw [List.take_add_one, hz]
  unfold inA
  simp only [Option.toList_some, inA_snoc]
  have : z = 0 ∨ z = 1 ∨ z = 2 ∨ z = 3 ∨ z = 4 ∨ z = 5 ∨ z = 6 ∨ z = 7 := by omega
  rcases this with rfl | rfl | rfl | rfl | rfl | rfl | rfl | rfl <;> simp

end Go.Proofs.Ytikblaebfpdngaa
