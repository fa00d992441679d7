/- Suites of the document: Essential, Needless: contracts. -/
import Derived.Test.YtmigkbimdjiigaaSvC
import Derived.Test.YtmigkbimdjiigaaSuT
set_option linter.unusedVariables false
set_option linter.unusedSimpArgs false
namespace Tinker
/-- The numbers below k for which something holds. -/
def fltL (p : Nat → Bool) (k : Nat) : List Int := ((List.range k).filter p).map fun n : Nat => (n : Int)
theorem fltL_yes {p : Nat → Bool} {k : Nat} (h : p k = true) : fltL p (k + 1) = fltL p k ++ [(k : Int)] := by
  unfold fltL; rw [List.range_succ, List.filter_append, List.map_append]; simp [h]
theorem fltL_no {p : Nat → Bool} {k : Nat} (h : p k = false) : fltL p (k + 1) = fltL p k := by
  unfold fltL; rw [List.range_succ, List.filter_append, List.map_append]; simp [h]
theorem fltL_len (p : Nat → Bool) (k : Nat) : (fltL p k).length ≤ k := by
  unfold fltL; rw [List.length_map]; exact Nat.le_trans (List.length_filter_le _ _) (by simp)
theorem fltL_mem {p : Nat → Bool} {k : Nat} {x : Int} : x ∈ fltL p k ↔ ∃ i : Nat, x = (i : Int) ∧ i < k ∧ p i = true := by
  unfold fltL
  simp only [List.mem_map, List.mem_filter, List.mem_range]
  constructor
  · rintro ⟨n, ⟨h1, h2⟩, rfl⟩; exact ⟨n, rfl, h1, h2⟩
  · rintro ⟨n, rfl, h1, h2⟩; exact ⟨n, ⟨h1, h2⟩, rfl⟩
theorem fltL_plc (p : Nat → Bool) (n : Nat) : plc ((List.range n).map p) = fltL p n := by
  unfold plc plcTo fltL
  rw [List.length_map, List.length_range]
  congr 1
  refine List.filter_congr fun i hi => ?_
  have := List.mem_range.1 hi
  simp [List.getD_eq_getElem?_getD, this]
/-- What the rows beside one meet. -/
theorem others_mask {s : List Nat} {r : Nat} : metM s (maskM (fltL (· != r) s.length)) = metM s (difK (fullM s) (2 ^ r)) := by
  refine metM_ext fun i hi => ?_
  rw [Bool.eq_iff_iff, maskM_has (fun x hx => by obtain ⟨i, rfl, _⟩ := fltL_mem.1 hx; omega), fltL_mem, difK_bit, full_bit, Nat.testBit_two_pow]
  constructor
  · rintro ⟨j, e, h1, h2⟩
    obtain rfl : i = j := by omega
    have h3 : i ≠ r := by simpa using h2
    rw [decide_eq_true hi, decide_eq_false (fun e => h3 e.symm)]
    rfl
  · intro h
    rw [decide_eq_true hi] at h
    refine ⟨i, rfl, hi, ?_⟩
    have : ¬ r = i := by simpa using h
    simpa using fun e => this e.symm
theorem ess_sz {s : List Nat} (hv : ∀ x ∈ s, x < 1024) (r : Nat) : decide (szK (metM s (difK (fullM s) (2 ^ r))) < szK (openM s)) = essB s r := by
  have h := met_left hv (difK (fullM s) (2 ^ r))
  have h2 := cov_sz hv (difK (fullM s) (2 ^ r))
  unfold essB
  rw [h2, Bool.eq_iff_iff, decide_eq_true_eq, Bool.not_eq_true', beq_eq_false_iff_ne]
  omega
/-- How many goals of one row are not of another one. -/
def cntTo (p : Nat → Bool) (k : Nat) : Nat := ((List.range k).filter p).length
theorem cntTo_yes {p : Nat → Bool} {k : Nat} (h : p k = true) : cntTo p (k + 1) = cntTo p k + 1 := by
  unfold cntTo; rw [List.range_succ, List.filter_append]; simp [h]
theorem cntTo_no {p : Nat → Bool} {k : Nat} (h : p k = false) : cntTo p (k + 1) = cntTo p k := by
  unfold cntTo; rw [List.range_succ, List.filter_append]; simp [h]
theorem cntTo_le (p : Nat → Bool) (k : Nat) : cntTo p k ≤ k := by unfold cntTo; exact Nat.le_trans (List.length_filter_le _ _) (by simp)
theorem cntTo_zero {p : Nat → Bool} {k : Nat} : cntTo p k = 0 ↔ ∀ i, i < k → p i = false := by
  unfold cntTo
  rw [List.length_eq_zero_iff, List.filter_eq_nil_iff]
  constructor
  · intro h i hi
    have := h i (List.mem_range.2 hi)
    simpa using this
  · intro h i hi
    rw [h i (List.mem_range.1 hi)]
    decide
/-- The first row is above, or below, the second one at a goal. -/
def gtB (x y : List Int) (g : Nat) : Bool := decide (y.getD g 0 < x.getD g 0)
theorem zero_one {t : List (List Int)} (hv : vsu t = 0) {z : List Int} (hz : z ∈ t) (g : Nat) : z.getD g 0 = 0 ∨ z.getD g 0 = 1 := by
  rcases Nat.lt_or_ge g z.length with h | h
  · obtain ⟨x, hx⟩ := get_of_lt h
    have := btw_true.1 (List.all_eq_true.1 ((vsu_ok hv).2.2 z hz).2 x (mem_of_get hx))
    rw [getD_of_get hx]
    omega
  · left
    rw [List.getD_eq_getElem?_getD, List.getElem?_eq_none h]; rfl
theorem less_zero {t : List (List Int)} (hv : vsu t = 0) {x y : List Int} (hx : x ∈ t) (hy : y ∈ t) : (cntTo (gtB x y) (goalsN t) == 0) = (difK (rowM x) (rowM y) == 0) := by
  rw [Bool.eq_iff_iff, beq_iff_eq, beq_iff_eq, cntTo_zero, difK_zero]
  unfold gtB
  constructor
  · intro h g hg
    rw [rowM_bit] at hg ⊢
    have hxl := ((vsu_ok hv).2.2 x hx).1
    rcases Nat.lt_or_ge g (goalsN t) with h1 | h1
    · have h2 := h g h1
      rw [decide_eq_false_iff_not] at h2
      have h3 : x.getD g 0 = 1 := by simpa using hg
      have := zero_one hv hy g
      rw [beq_iff_eq]
      omega
    · rw [List.getD_eq_getElem?_getD, List.getElem?_eq_none (by omega)] at hg
      cases hg
  · intro h g hg
    rw [decide_eq_false_iff_not]
    intro h2
    have h3 := zero_one hv hx g
    have h4 := zero_one hv hy g
    have := h g (by rw [rowM_bit, beq_iff_eq]; omega)
    rw [rowM_bit, beq_iff_eq] at this
    omega
theorem std_eq {t : List (List Int)} (hv : vsu t = 0) {r i : Nat} {x y : List Int} (hx : t[r]? = some x) (hy : t[i]? = some y) :
    stdB (tblM t) r i = (cntTo (gtB x y) (goalsN t) == 0 && (decide (0 < cntTo (gtB y x) (goalsN t)) || decide (i < r))) := by
  have hxm := List.mem_of_getElem? hx
  have hym := List.mem_of_getElem? hy
  unfold stdB
  rw [getD_of_get (tblM_get hx), getD_of_get (tblM_get hy), less_zero hv hxm hym]
  cases h1 : (difK (rowM x) (rowM y) == 0)
  · rfl
  · rw [Bool.true_and, Bool.true_and]
    congr 1
    rw [Bool.eq_iff_iff, bne_iff_ne, decide_eq_true_eq]
    rw [beq_iff_eq] at h1
    have hlx : rowM x < 1024 := rowM_lt (by rw [((vsu_ok hv).2.2 x hxm).1]; exact (vsu_ok hv).2.1)
    have hly : rowM y < 1024 := rowM_lt (by rw [((vsu_ok hv).2.2 y hym).1]; exact (vsu_ok hv).2.1)
    constructor
    · intro hne
      rcases Nat.eq_zero_or_pos (cntTo (gtB y x) (goalsN t)) with h0 | h0
      · exfalso
        have h2 := less_zero hv hym hxm
        rw [h0] at h2
        have h3 : difK (rowM y) (rowM x) = 0 := by simpa using h2.symm
        refine hne (eq_bitsK hlx hly fun g _ => ?_)
        rw [Bool.eq_iff_iff]
        exact ⟨difK_zero.1 h1 g, difK_zero.1 h3 g⟩
      · exact h0
    · intro h0 e
      have h2 := less_zero hv hym hxm
      rw [e] at h2
      have h3 : difK (rowM y) (rowM y) = 0 := difK_zero.2 fun _ h => h
      rw [h3] at h2
      have : cntTo (gtB y x) (goalsN t) = 0 := by simpa using h2
      omega
/-- No row is essential and needless. -/
theorem ess_ned {s : List Nat} {r : Nat} (he : essB s r = true) (hn : nedB s r = true) (hr : r < s.length) : False := by
  obtain ⟨o, ho, h⟩ := List.any_eq_true.1 hn
  have ho := List.mem_range.1 ho
  unfold stdB at h
  rw [Bool.and_eq_true, beq_iff_eq] at h
  obtain ⟨h1, h2⟩ := h
  have hor : o ≠ r := by
    rintro rfl
    simp at h2
  unfold essB at he
  rw [Bool.not_eq_true'] at he
  have : covB s (difK (fullM s) (2 ^ r)) = true := covB_iff.2 fun g hg => by
    obtain ⟨q, q1, q2⟩ := openM_bit.1 hg
    have key : ∃ p, p < s.length ∧ p ≠ r ∧ (s.getD p 0).testBit g = true := by
      by_cases e : q = r
      · subst e; exact ⟨o, ho, hor, difK_zero.1 h1 g q2⟩
      · exact ⟨q, q1, e, q2⟩
    obtain ⟨p, p1, p2, p3⟩ := key
    refine metM_bit.2 ⟨p, p1, ?_, p3⟩
    rw [difK_bit, full_bit, decide_eq_true p1, Nat.testBit_two_pow, decide_eq_false (fun e => p2 e.symm)]
    rfl
  rw [this] at he
  cases he
end Tinker
namespace Go.Proofs.Ytmigkbimdjiigaa
open Go.RowKit Tinker

/-- One more number in an own list. -/
theorem own_push8 {w W w1 : World} {v v' : Value} {xs ys : List Int} {o : Obj} {x : Int} (hown : W.ownsRow w.heap.size 3 1 v xs.length (xs.map (Value.int .i64))) (hB : Below w.heap.size w W)
    (hown' : w1.ownsRow w.heap.size 3 1 v' (xs.length + 1) (xs.map (Value.int .i64) ++ [.int .i64 x])) (hgrow : (W.alloc o).grownBy w1 v.ownBlock) (e : ys = xs ++ [x]) :
    w1.ownsRow w.heap.size 3 1 v' ys.length (ys.map (Value.int .i64)) ∧ Below w.heap.size w w1 := by
  subst e
  refine ⟨by simpa using hown', (hB.alloc hB.size _).grown hgrow (by have := hB.size; simp; omega) (own_base hown)⟩

set_option maxRecDepth 100000 in
set_option maxHeartbeats 4000000 in
theorem rEssential_any (a : Option Addr) (ca : Nat) (t : List (List Int)) (w : World) (ht : RowsAt w a t) (hl : t.length ≤ 1000) (hm : ∀ z ∈ t, z.length ≤ 1000) :
    Calls Try.prog 36 #[.slice a t.length ca] w (GivesIntsE (if vsu t = 0 then essL (tblM t) else []) (vsu t) w) := by
  have HV := Lib.hid (rValidate8_any a ca t w ht hl hm)
  by_cases hv : vsu t = 0
  · rw [if_pos hv]
    rw [hv] at HV ⊢
    obtain ⟨i0, hi, hz0, hz1, hz2⟩ := info_parts info_int
    have hl8 := (vsu_ok hv).1
    have hsv := tblM_lt hv
    have HO := Lib.hid (fun w ht => rOpenL_any a ca t w ht hv)
    have HME := Lib.hid (fun b cb r w ht hr => rMet_any a b ca cb t (fltL (· != r) t.length) w ht hr hv (fun x hx => by obtain ⟨i, rfl, h1, _⟩ := fltL_mem.1 hx; omega) (Nat.le_trans (fltL_len _ _) (by omega)))
    have HT := Lib.hid ht
    have HE := Lib.hid (fun r => ess_sz hsv r)
    have HQ := Lib.hid (show essL (tblM t) = fltL (essB (tblM t)) t.length by unfold essL; rw [fltL_plc, tblM_len])
    rw [HQ.out]
    have HOT := Lib.hid (fun r => show metM (tblM t) (maskM (fltL (· != r) t.length)) = metM (tblM t) (difK (fullM (tblM t)) (2 ^ r)) from by have := others_mask (s := tblM t) (r := r); rwa [tblM_len] at this)
    clear ht hm hv hsv HQ
    generalize tblM t = s at *
    go_enter Try.func36, Try.ntmps36
    go_wp2_with fail
    refine HV.out.mono ?_
    rintro e w1 ⟨rfl, hB1⟩
    go_wp2_with fail
    go_loopw [5, 6] (fun s5 s6 wr => ∃ k : Nat, k ≤ t.length ∧ s6 = .int .i64 k ∧ wr.ownsRow w.heap.size 3 1 s5 (fltL (essB s) k).length ((fltL (essB s) k).map (Value.int .i64)) ∧ Below w.heap.size w wr) (fun _ s6 _ => t.length - (intOf s6).toNat)
    case atStart => exact ⟨0, Nat.zero_le _, rfl, World.ownsRow_nil _ _ _ _, hB1⟩
    case round =>
      clear HV hB1
      obtain ⟨k, hk, rfl, hown, hB⟩ := hrel
      by_cases hlt : k < t.length
      · obtain ⟨av, cv, rfl⟩ := own_slice hown
        have hfl := fltL_len (essB s) k
        have HOW := Lib.hid hown
        have HB := Lib.hid hB
        clear hown hB
        obtain ⟨W0, hW0⟩ : ∃ W, W = wr := ⟨_, rfl⟩
        subst hW0
        go_wp2_with fail
        go_loopw [7, 8] (fun s7 s8 wx => ∃ j : Nat, j ≤ t.length ∧ s8 = .int .i64 j ∧ wx.ownsRow W0.heap.size 3 1 s7 (fltL (· != k) j).length ((fltL (· != k) j).map (Value.int .i64)) ∧ Below W0.heap.size W0 wx) (fun _ s8 _ => t.length - (intOf s8).toNat)
        case atStart => exact ⟨0, Nat.zero_le _, rfl, World.ownsRow_nil _ _ _ _, Below.refl _ _⟩
        case round =>
          obtain ⟨j, hj, rfl, hownj, hBj⟩ := hrel
          have hflj := fltL_len (· != k) j
          by_cases hjl : j < t.length
          · by_cases hjk : j = k
            · subst hjk
              have hd : ((j : Int) != (j : Int)) = false := by simp
              have HN := Lib.hid (fltL_no (p := (· != j)) (k := j) (by simp))
              have HOJ := Lib.hid hownj
              have HBJ := Lib.hid hBj
              clear hownj hBj
              go_wp2_with fail
              go_roundw
              case rel => exact ⟨j + 1, by omega, by go_num, by rw [HN.out]; exact HOJ.out, HBJ.out⟩
              case measure => simp [intOf]; omega
            · have hd : ((j : Int) != (k : Int)) = true := by rw [bne_iff_ne]; omega
              have HN := Lib.hid (fltL_yes (p := (· != k)) (k := j) (by simpa using hjk))
              have HBJ := Lib.hid hBj
              go_wp2_with (at_builtin; refine wpList_append_own _ rfl (.tmp 29) (.tmp 31) 23 rfl W0.heap.size 3 i0 (.int .i64 0) 1 8 Try.underlying23 hi hz0 hz1 hz2 rfl (by decide) _ _ _ rfl (hownj.alloc _) ⟨wr.heap.size, 0, none⟩ 1 1 [.int .i64 j] rfl rfl ?c1 ?c2 ?c3 ?c4 ?c5 ?_)
              try (case c1 => exact cell_one_new _ _ _)
              case c2 => simp [Value.oneCell']
              case c3 => unfold maxLen; omega
              case c4 => omega
              case c5 => have := HBJ.out.size; simp; omega
              intro v' w3 hown' hgrow _
              have HP := Lib.hid (own_push8 hownj HBJ.out hown' hgrow HN.out)
              clear hownj hown' hgrow hBj
              go_wp2_with fail
              go_roundw
              case rel => exact ⟨j + 1, by omega, by go_num, HP.out.1, HP.out.2⟩
              case measure => simp [intOf]; omega
          · obtain rfl : j = t.length := by omega
            obtain ⟨aj, cj, rfl⟩ := own_slice hownj
            have HIJ := Lib.hid (ints_of_own hownj).1
            have hB2 := HB.out.trans (hBj.mono HB.out.size)
            have HB2 := Lib.hid hB2
            have HOW2 := Lib.hid (own_below HOW.out hBj (Nat.le_refl _))
            have HE2 := Lib.hid (HE.out k)
            rw [← HOT.out k] at HE2
            have HM2 := Lib.hid (HME.out aj cj k)
            generalize hMM : metM s (maskM (fltL (· != k) t.length)) = MM at HE2 HM2
            generalize fltL (· != k) t.length = FO at *
            clear hownj hBj hB2 HOW HB hMM hflj
            go_wp2_with fail
            refine (HM2.out _ (HT.out.below HB2.out (Nat.le_refl _)) HIJ.out).mono ?_
            rintro e w3 ⟨a3, c3, rfl, -, hB⟩
            have HOW3 := Lib.hid (own_below HOW2.out hB (Nat.le_refl _))
            have HB3 := Lib.hid (HB2.out.trans (hB.mono HB2.out.size))
            clear hB HOW2 HB2
            go_wp2_with fail
            refine (HO.out _ (HT.out.below HB3.out (Nat.le_refl _))).mono ?_
            rintro e w4 ⟨a4, c4, rfl, -, hB⟩
            have HOW4 := Lib.hid (own_below HOW3.out hB (Nat.le_refl _))
            have HB4 := Lib.hid (HB3.out.trans (hB.mono HB3.out.size))
            clear hB HOW3 HB3
            have hdd : decide (((numsK MM).length : Int) < ((numsK (openM s)).length : Int)) = essB s k := by
              rw [← HE2.out]
              show decide (((szK MM : Nat) : Int) < ((szK (openM s) : Nat) : Int)) = _
              rw [decide_eq_decide]; omega
            have hdn : decide ((numsK MM).length < (numsK (openM s)).length) = essB s k := HE2.out
            cases hes : essB s k
            · have HN := Lib.hid (fltL_no hes)
              rw [hes] at hdd hdn
              clear hes HE2
              go_wp2_with fail
              go_roundw
              case rel => exact ⟨k + 1, by omega, by go_num, by rw [HN.out]; exact HOW4.out, HB4.out⟩
              case measure => simp [intOf]; omega
            · have HN := Lib.hid (fltL_yes hes)
              rw [hes] at hdd hdn
              have hown4 := HOW4.out
              clear hes HE2 HOW4
              go_wp2_with (at_builtin; refine wpList_append_own _ rfl (.tmp 41) (.tmp 43) 23 rfl w.heap.size 3 i0 (.int .i64 0) 1 8 Try.underlying23 hi hz0 hz1 hz2 rfl (by decide) _ _ _ rfl (hown4.alloc _) ⟨w4.heap.size, 0, none⟩ 1 1 [.int .i64 k] rfl rfl ?d1 ?d2 ?d3 ?d4 ?d5 ?_)
              try (case d1 => exact cell_one_new _ _ _)
              case d2 => simp [Value.oneCell']
              case d3 => unfold maxLen; omega
              case d4 => omega
              case d5 => have := HB4.out.size; simp; omega
              intro v' w5 hown' hgrow _
              have HP := Lib.hid (own_push8 hown4 HB4.out hown' hgrow HN.out)
              clear hown4 hown' hgrow
              go_wp2_with fail
              go_roundw
              case rel => exact ⟨k + 1, by omega, by go_num, HP.out.1, HP.out.2⟩
              case measure => simp [intOf]; omega
      · obtain rfl : k = t.length := by omega
        obtain ⟨av, cv, rfl⟩ := own_slice hown
        have HOW := Lib.hid hown
        clear hown
        go_wp2_with fail
        go_ret2
        exact ⟨av, cv, rfl, HOW.out, hB⟩
  · rw [if_neg hv]
    have hne : (vsu t != 0) = true := by simpa using hv
    clear hv ht hm
    go_enter Try.func36, Try.ntmps36
    go_wp2_with fail
    refine HV.out.mono ?_
    rintro e w' ⟨rfl, hB⟩
    go_wp2_with fail
    go_ret2
    exact ⟨none, 0, rfl, World.ownsRow_nil _ _ _ _, hB⟩

end Go.Proofs.Ytmigkbimdjiigaa
