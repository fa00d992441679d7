/- Touches and Keep of patches: plain mathematics, the code's contracts. -/
import Derived.Test.YtikblaebfpdngaaMpD
import Derived.Test.YtikblaebfpdngaaEdO
set_option linter.unusedVariables false
set_option linter.unusedSimpArgs false
namespace Go.Proofs.Ytikblaebfpdngaa
open Go.RowKit Go.Maps Tinker

/-- The places that a patch touches. -/
def tcR (xs : List E) : List Int := if vx xs = 0 then pl xs else []
/-- What a call hands over: numbers, and a code. -/
def HandsI (zs : List Int) (c : Int) (w : World) (e : Ending) (w' : World) : Prop :=
  ∃ a cap, e = .returned (.tuple #[.slice a zs.length cap, .int .i64 c]) ∧ IntsAt w' a zs ∧ Below w.heap.size w w'
/-- The edits at places, what Keep answers. -/
def kpF (xs : List E) (zs : List Int) (i : Int) : Option L := if i ∈ zs then atX xs i else none
def kpL (xs : List E) (zs : List Int) : List E := xs.filter fun e => zs.contains e.at_
def kpC (xs : List E) (zs : List Int) : Int := if vx xs = 0 then (if isSetB zs && allBtw zs 0 7 then 0 else 1) else vx xs
def kpR (xs : List E) (zs : List Int) : List E := if kpC xs zs = 0 then kpL xs zs else []
theorem kp_1 {xs : List E} {zs : List Int} (h : vx xs ≠ 0) : kpC xs zs = vx xs ∧ kpR xs zs = [] := by
  have : kpC xs zs = vx xs := by unfold kpC; rw [if_neg h]
  exact ⟨this, by unfold kpR; rw [this, if_neg h]⟩
theorem kp_2 {xs : List E} {zs : List Int} (h : vx xs = 0) (h2 : (isSetB zs && allBtw zs 0 7) = false) : kpC xs zs = 1 ∧ kpR xs zs = [] := by
  have : kpC xs zs = 1 := by unfold kpC; rw [if_pos h, h2]; rfl
  exact ⟨this, by unfold kpR; rw [this, if_neg (by decide)]⟩
theorem kp_0 {xs : List E} {zs : List Int} (h : vx xs = 0) (h2 : (isSetB zs && allBtw zs 0 7) = true) : kpC xs zs = 0 ∧ kpR xs zs = kpL xs zs := by
  have : kpC xs zs = 0 := by unfold kpC; rw [if_pos h, h2]; rfl
  exact ⟨this, by unfold kpR; rw [this, if_pos rfl]⟩
theorem kp_len (xs : List E) (zs : List Int) : (kpR xs zs).length ≤ xs.length := by
  unfold kpR
  split
  · unfold kpL; exact List.length_filter_le _ _
  · simp
theorem kpL_mpL {xs : List E} {zs : List Int} (h : vx xs = 0) : mpL (kpF xs zs) = kpL xs zs := by
  obtain ⟨h1, h2, h3⟩ := vx_ok h
  have hd := dist_of h2
  refine ext_dist (mpL_dist _) (by unfold kpL; exact List.Pairwise.filter _ hd) fun e => ?_
  rw [mpL_mem]
  unfold kpL kpF
  rw [List.mem_filter, List.contains_iff_mem]
  constructor
  · rintro ⟨_, h4⟩
    by_cases hm : e.at_ ∈ zs
    · rw [if_pos hm] at h4
      obtain ⟨z, hz, h5, h6⟩ := atX_some h4
      have : z = e := by cases z; cases e; simp_all
      exact ⟨this ▸ hz, hm⟩
    · rw [if_neg hm] at h4; cases h4
  · rintro ⟨h4, hm⟩
    exact ⟨(h3 e h4).1, by rw [if_pos hm]; exact atX_mem hd h4⟩
theorem kp_all {xs : List E} (h : vx xs = 0) : kpC xs (pl xs) = 0 ∧ kpR xs (pl xs) = xs := by
  obtain ⟨h1, h2, h3⟩ := vx_ok h
  have hb : allBtw (pl xs) 0 7 = true := allBtw_of fun n hn => by obtain ⟨e, he, rfl⟩ := List.mem_map.1 hn; exact (h3 e he).1
  obtain ⟨e1, e2⟩ := kp_0 (zs := pl xs) h (by rw [h2, hb]; rfl)
  refine ⟨e1, ?_⟩
  rw [e2]
  unfold kpL
  rw [List.filter_eq_self]
  intro e he
  rw [List.contains_iff_mem]
  exact List.mem_map.2 ⟨e, he, rfl⟩
theorem kpF_step {xs : List E} {zs : List Int} {k : Nat} {z : Int} (h : zs[k]? = some z) (j : Int) : kpF xs (zs.take (k + 1)) j = if z = j then atX xs z else kpF xs (zs.take k) j := by
  unfold kpF
  rw [List.take_add_one, h]
  by_cases hzj : z = j
  · subst hzj
    rw [if_pos rfl, if_pos (by simp)]
  · rw [if_neg hzj]
    have : (j ∈ zs.take k ++ (some z).toList) ↔ j ∈ zs.take k := by simp; exact fun h => absurd h.symm hzj
    simp only [this]
theorem kpF_no {xs : List E} {zs : List Int} {k : Nat} {z : Int} (h : zs[k]? = some z) (hn : atX xs z = none) : kpF xs (zs.take (k + 1)) = kpF xs (zs.take k) := by
  funext j
  rw [kpF_step h]
  by_cases hzj : z = j
  · rw [if_pos hzj, hn]
    subst hzj
    unfold kpF
    rw [hn]
    split <;> rfl
  · rw [if_neg hzj]

set_option maxRecDepth 100000 in
set_option maxHeartbeats 1000000 in
theorem pTouches_any (a : Option Addr) (ca : Nat) (xs : List E) (w : World) (hx : EditsAt w a xs) (hm : xs.length ≤ 1000) :
    Calls Try.prog 68 #[.slice a xs.length ca] w (HandsI (tcR xs) (vx xs) w) := by
  have H1 := Lib.hid (fun w hx => pValidate_any a ca xs w hx hm)
  by_cases hz : vx xs = 0
  · have h4 := (vx_ok hz).1
    have HP := Lib.hid (fun w hx => pPlaces_any a ca xs w hx h4)
    have HE := Lib.hid (show tcR xs = pl xs by unfold tcR; rw [if_pos hz])
    have HL := Lib.hid (show xs.length = (pl xs).length by unfold pl; rw [List.length_map])
    rw [HE.out, hz]
    rw [hz] at H1
    clear hz HE
    go_enter Try.func68, Try.ntmps68
    go_wp2_with fail
    refine (H1.out _ hx).mono ?_
    rintro e w1 ⟨rfl, hB⟩
    have HB := Lib.hid hB
    clear hB
    go_wp2_with fail
    refine (HP.out _ (hx.below HB.out (Nat.le_refl _))).mono ?_
    rintro e w2 ⟨rfl, hI, _⟩
    have HI := Lib.hid hI.ints
    have HB2 := Lib.hid (HB.out.trans (hI.below.mono HB.out.size))
    clear hI
    go_wp2_with fail
    go_ret2
    exact ⟨_, _, by rw [← HL.out]; rfl, HI.out, HB2.out⟩
  · have HE := Lib.hid (show tcR xs = [] by unfold tcR; rw [if_neg hz])
    rw [HE.out]
    have hz1 : (vx xs != 0) = true := by simpa using hz
    clear hz HE
    generalize vx xs = c at H1 hz1 ⊢
    go_enter Try.func68, Try.ntmps68
    go_wp2_with fail
    refine (H1.out _ hx).mono ?_
    rintro e w1 ⟨rfl, hB⟩
    have HB := Lib.hid hB
    clear hB
    go_wp2_with fail
    go_ret2
    exact ⟨none, 0, rfl, .inl rfl, HB.out⟩

end Go.Proofs.Ytikblaebfpdngaa
