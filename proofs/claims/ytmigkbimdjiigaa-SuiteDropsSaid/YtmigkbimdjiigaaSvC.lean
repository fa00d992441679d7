/- Several texts in one. -/
import Derived.BigQuiet
import Derived.Deep.QuietTactic
import Derived.Test.YtmigkbimdjiigaaSuP
import Derived.Test.YtmigkbimdjiigaaSuE
/- Suites of the document: valid ones, what rows meet: contracts. -/
set_option linter.unusedVariables false
set_option linter.unusedSimpArgs false
namespace Tinker
/-- Whether some of some rows meets a goal. -/
def hitB (t : List (List Int)) (rows : List Int) (g : Nat) : Bool := rows.any fun r => (t.getD r.toNat []).getD g 0 == 1
def metTL (t : List (List Int)) (rows : List Int) (k : Nat) : List Int := ((List.range k).filter (hitB t rows)).map fun n : Nat => (n : Int)
def metL (t : List (List Int)) (rows : List Int) : List Int := metTL t rows (goalsN t)
theorem metTL_yes {t : List (List Int)} {rows : List Int} {k : Nat} (h : hitB t rows k = true) : metTL t rows (k + 1) = metTL t rows k ++ [(k : Int)] := by
  unfold metTL; rw [List.range_succ, List.filter_append, List.map_append]; simp [h]
theorem metTL_no {t : List (List Int)} {rows : List Int} {k : Nat} (h : hitB t rows k = false) : metTL t rows (k + 1) = metTL t rows k := by
  unfold metTL; rw [List.range_succ, List.filter_append, List.map_append]; simp [h]
theorem metTL_len (t : List (List Int)) (rows : List Int) (k : Nat) : (metTL t rows k).length ≤ k := by
  unfold metTL; rw [List.length_map]; exact Nat.le_trans (List.length_filter_le _ _) (by simp)
theorem row_at {t : List (List Int)} (hv : vsu t = 0) {r : Nat} {z : List Int} (h : t[r]? = some z) : z.length = goalsN t := ((vsu_ok hv).2.2 z (List.mem_of_getElem? h)).1
theorem metL_eq {t : List (List Int)} {rows : List Int} (hv : vsu t = 0) (hr : ∀ x ∈ rows, 0 ≤ x ∧ x < (t.length : Int)) : metL t rows = numsK (metM (tblM t) (maskM rows)) := by
  refine pair_unique (filt_pair _ _) (numsK_pair _) fun x => ?_
  rw [numsK_mem]
  constructor
  · intro hx
    obtain ⟨g, hg, rfl⟩ := List.mem_map.1 hx
    obtain ⟨hg1, hg2⟩ := List.mem_filter.1 hg
    have hg10 := (vsu_ok hv).2.1
    refine ⟨g, rfl, by have := List.mem_range.1 hg1; omega, metM_bit.2 ?_⟩
    obtain ⟨r, hrm, hrg⟩ := List.any_eq_true.1 hg2
    obtain ⟨h0, h1⟩ := hr r hrm
    refine ⟨r.toNat, by rw [tblM_len]; omega, (maskM_has (fun x hx => (hr x hx).1) _).2 (by rw [show ((r.toNat : Nat) : Int) = r by omega]; exact hrm), ?_⟩
    rw [tblM_bit]
    exact hrg
  · rintro ⟨g, rfl, hg10, hb⟩
    obtain ⟨r, h1, h2, h3⟩ := metM_bit.1 hb
    rw [tblM_bit] at h3
    rw [tblM_len] at h1
    have hmem := (maskM_has (fun x hx => (hr x hx).1) r).1 h2
    refine List.mem_map.2 ⟨g, List.mem_filter.2 ⟨List.mem_range.2 ?_, List.any_eq_true.2 ⟨(r : Int), hmem, h3⟩⟩, rfl⟩
    have hz : t[r]? = some (t.getD r []) := by rw [List.getD_eq_getElem?_getD, List.getElem?_eq_getElem h1]; rfl
    rw [← row_at hv hz]
    rcases Nat.lt_or_ge g (t.getD r []).length with h | h
    · exact h
    · rw [List.getD_eq_getElem?_getD (l := t.getD r []), List.getElem?_eq_none h] at h3
      cases h3
/-- All rows. -/
def allL (n : Nat) : List Int := (List.range n).map fun r : Nat => (r : Int)
theorem allL_in {n : Nat} : ∀ x ∈ allL n, 0 ≤ x ∧ x < (n : Int) := fun x hx => by
  obtain ⟨r, hr, rfl⟩ := List.mem_map.1 hx
  have := List.mem_range.1 hr
  omega
theorem allL_len (n : Nat) : (allL n).length = n := by simp [allL]
theorem metM_ext {s : List Nat} {S T : Nat} (h : ∀ r, r < s.length → S.testBit r = T.testBit r) : metM s S = metM s T := by
  unfold metM
  have : ∀ k, k ≤ s.length → metTo s S k = metTo s T k := by
    intro k
    induction k with
    | zero => intro _; rfl
    | succ k ih => intro hk; rw [metTo, metTo, h k (by omega), ih (by omega)]
  exact this _ (Nat.le_refl _)
theorem openL_eq {t : List (List Int)} (hv : vsu t = 0) : metL t (allL t.length) = numsK (openM (tblM t)) := by
  rw [metL_eq hv allL_in]
  congr 1
  refine metM_ext fun r hr => ?_
  rw [full_bit, decide_eq_true hr, maskM_has fun x hx => (allL_in x hx).1]
  rw [tblM_len] at hr
  exact List.mem_map.2 ⟨r, List.mem_range.2 hr, rfl⟩
end Tinker
namespace Go.Proofs.Ytmigkbimdjiigaa
open Go.RowKit Tinker

theorem rGoals8_any (a : Option Addr) (cap : Nat) (t : List (List Int)) (w : World) (ht : RowsAt w a t) :
    Calls Try.prog 84 #[.slice a t.length cap] w fun e w' => e = .returned (.int .i64 (goalsN t)) ∧ w = w' := by
  rcases Nat.eq_zero_or_pos t.length with h0 | h0
  · have ht0 : t = [] := List.eq_nil_of_length_eq_zero h0
    subst ht0
    have e0 : ((0 : Nat) : Int) = 0 := rfl
    rw [goals_nil]
    clear ht h0
    go_enter Try.func84, Try.ntmps84
    go_wp2_with fail
    go_ret
    exact ⟨rfl, rfl⟩
  · obtain ⟨b, off, z, a1, c1, rfl, hlb, hz, c0, hi⟩ := ht.at_ h0
    have HG := Lib.hid (goals_at hz)
    rw [HG.out]
    have hne : ((t.length : Int) == 0) = false := by rw [beq_eq_false_iff_ne]; omega
    rw [Nat.add_zero] at c0
    clear HG hz hi ht
    go_enter Try.func84, Try.ntmps84
    go_wp2_with fail
    go_ret
    exact ⟨rfl, rfl⟩

set_option maxRecDepth 100000 in
set_option maxHeartbeats 2000000 in
theorem rValidate8_any (a : Option Addr) (cap : Nat) (t : List (List Int)) (w : World) (ht : RowsAt w a t) (hl : t.length ≤ 1000) (hm : ∀ z ∈ t, z.length ≤ 1000) :
    Calls Try.prog 24 #[.slice a t.length cap] w fun e w' => e = .returned (.int .i64 (vsu t)) ∧ Below w.heap.size w w' := by
  have HT := Lib.hid ht
  have HM := Lib.hid hm
  by_cases h8 : 8 < t.length
  · have h8i : decide ((8 : Int) < (t.length : Int)) = true := by simp; omega
    rw [vsu_large (.inl h8)]
    clear ht hm
    go_enter Try.func24, Try.ntmps24
    go_wp2_with fail
    go_ret
    exact ⟨rfl, Below.refl _ _⟩
  · have h8i : decide ((8 : Int) < (t.length : Int)) = false := by simp; omega
    rcases Nat.eq_zero_or_pos t.length with h0 | h0
    · have ht0 : t = [] := List.eq_nil_of_length_eq_zero h0
      subst ht0
      have e0 : ((0 : Nat) : Int) = 0 := rfl
      rw [show vsu [] = 0 from rfl]
      clear ht hm h0 HT HM h8 h8i hl
      go_enter Try.func24, Try.ntmps24
      go_wp2_with fail
      go_loop [3] (fun i => i = .int .i64 0) (fun _ => 0)
      case atStart => exact rfl
      case round =>
        subst hrel
        go_wp2_with fail
        go_ret
        exact ⟨rfl, Below.refl _ _⟩
    · obtain ⟨b0, off0, z0, a0, c0, rfl, hlb0, hz0, d0, hi0⟩ := ht.at_ h0
      have HG := Lib.hid (goals_at hz0)
      have hp : decide ((0 : Int) < (t.length : Int)) = true := by simp; omega
      have hp2 : decide (0 < t.length) = true := decide_eq_true h0
      rw [Nat.add_zero] at d0
      by_cases h10 : 10 < z0.length
      · have h10i : decide ((10 : Int) < (z0.length : Int)) = true := by simp; omega
        rw [vsu_large (.inr (by rw [HG.out]; exact h10))]
        clear ht hm hz0 hi0
        go_enter Try.func24, Try.ntmps24
        go_wp2_with fail
        go_ret
        exact ⟨rfl, Below.refl _ _⟩
      · have h10i : decide ((10 : Int) < (z0.length : Int)) = false := by simp; omega
        have HN := Lib.hid (show ¬ (8 < t.length ∨ 10 < goalsN t) by rw [HG.out]; omega)
        clear ht hm hz0 hi0
        go_enter Try.func24, Try.ntmps24
        go_wp2_with fail
        go_loopw [3] (fun i wr => ∃ k : Nat, k ≤ t.length ∧ i = .int .i64 k ∧ (t.take k).all (rowB z0.length) = true ∧ Below w.heap.size w wr) (fun i _ => t.length - (intOf i).toNat)
        case atStart => exact ⟨0, Nat.zero_le _, rfl, by simp, Below.refl _ _⟩
        case round =>
          clear h8i h10i hp hp2
          obtain ⟨k, hk, rfl, hall, hB⟩ := hrel
          have HA := Lib.hid hall
          have HB := Lib.hid hB
          have d0 := (hB.cell (p := ⟨b0, off0, none⟩) hlb0).trans d0
          clear hall hB
          by_cases hlt : k < t.length
          · obtain ⟨b, off, z, a1, c1, e1, hlb, hz, d1, hi⟩ := HT.out.at_ hlt
            injection e1 with e1
            injection e1 with e1 e2
            subst e1 e2
            have d1 := (HB.out.cell (p := ⟨b0, off0 + k, none⟩) hlb0).trans d1
            have HZ := Lib.hid hz
            have HI := Lib.hid hi
            have hz1000 := HM.out z (mem_of_get hz)
            clear hz hi
            by_cases hne : z.length = z0.length
            · have hd : ((z.length : Int) != (z0.length : Int)) = false := by simp; omega
              have HNE := Lib.hid hne
              clear hne
              go_wp2_with fail
              go_quiet (fail)
              go_wp2_with fail
              go_loopw [4] (fun g wx => ∃ j : Nat, j ≤ z.length ∧ g = .int .i64 j ∧ (z.take j).all (btw · 0 1) = true ∧ Below w.heap.size w wx) (fun g _ => z.length - (intOf g).toNat)
              case atStart => exact ⟨0, Nat.zero_le _, rfl, by simp, HB.out.trans (Below.mono ⟨rfl, rfl, rfl, Nat.le_refl _, fun _ _ => rfl⟩ HB.out.size)⟩
              case round =>
                clear d1 d0
                obtain ⟨j, hj, rfl, hallj, hBj⟩ := hrel
                have HAJ := Lib.hid hallj
                have HBJ := Lib.hid hBj
                clear hallj hBj
                obtain ⟨b9, off9, z9, a9, c9, e9, hlb9, hz9, d1', hi9⟩ := HT.out.at_ hlt
                injection e9 with e9
                injection e9 with e9 e10
                subst e9 e10
                rw [HZ.out] at hz9
                injection hz9 with hz9
                subst hz9
                have d1 := (HBJ.out.cell (p := ⟨b0, off0 + k, none⟩) hlb0).trans d1'
                have hi9 := hi9.below HBJ.out (Nat.le_refl _)
                clear d1'
                by_cases hjl : j < z.length
                · obtain ⟨b2, off2, x, rfl, hlb2, hx, hc⟩ := hi9.at_ hjl
                  have HX := Lib.hid hx
                  clear hx hi9
                  by_cases hx0 : x = 0
                  · subst hx0
                    have HBX := Lib.hid (show btw 0 0 1 = true from rfl)
                    go_wp2_with fail
                    go_roundw
                    case rel => exact ⟨j + 1, by omega, by go_num, all_snoc HAJ.out HX.out HBX.out, HBJ.out⟩
                    case measure => simp [intOf]; omega
                  · by_cases hx1 : x = 1
                    · subst hx1
                      have HBX := Lib.hid (show btw 1 0 1 = true from rfl)
                      go_wp2_with fail
                      go_roundw
                      case rel => exact ⟨j + 1, by omega, by go_num, all_snoc HAJ.out HX.out HBX.out, HBJ.out⟩
                      case measure => simp [intOf]; omega
                    · have n0 : (x != 0) = true := by simpa using hx0
                      have n1 : (x != 1) = true := by simpa using hx1
                      have HBX := Lib.hid (show btw x 0 1 = false by
                        unfold btw
                        rw [Bool.and_eq_false_iff, decide_eq_false_iff_not, decide_eq_false_iff_not]
                        omega)
                      have HQ := Lib.hid (show rowB z0.length z = false by unfold rowB allBtw; rw [all_not HX.out HBX.out, Bool.and_false])
                      clear hx0 hx1
                      go_wp2_with fail
                      go_ret
                      exact ⟨ret_int (vsu_bad HN.out (by rw [HG.out]; exact all_not HZ.out HQ.out)).symm, HBJ.out⟩
                · have HQ := Lib.hid (show rowB z0.length z = true by unfold rowB allBtw; rw [all_whole HAJ.out hjl, Bool.and_true]; exact beq_iff_eq.2 HNE.out)
                  clear hi9
                  go_wp2_with fail
                  go_roundw
                  case rel => exact ⟨k + 1, by omega, by go_num, all_snoc HA.out HZ.out HQ.out, HBJ.out⟩
                  case measure => simp [intOf]; omega
            · have hd : ((z.length : Int) != (z0.length : Int)) = true := by simp; omega
              have HQ := Lib.hid (show rowB z0.length z = false by unfold rowB; rw [show (z.length == z0.length) = false by simpa using hne, Bool.false_and])
              clear hne
              go_wp2_with fail
              go_quiet (fail)
              go_wp2_with fail
              go_ret
              exact ⟨ret_int (vsu_bad HN.out (by rw [HG.out]; exact all_not HZ.out HQ.out)).symm, HB.out.trans (Below.mono ⟨rfl, rfl, rfl, Nat.le_refl _, fun _ _ => rfl⟩ HB.out.size)⟩
          · clear d0
            go_wp2_with fail
            go_ret
            exact ⟨ret_int (vsu_good HN.out (by rw [HG.out]; exact all_whole HA.out hlt)).symm, HB.out⟩

set_option maxHeartbeats 400000 in
theorem rHas8_any (a : Option Addr) (cap : Nat) (zs : List Int) (n : Int) (w : World) (hz : IntsAt w a zs) (hm : zs.length ≤ 1000) :
    Calls Try.prog 86 #[.slice a zs.length cap, .int .i64 n] w fun e w' => e = .returned (.bool (hasB zs n)) ∧ w = w' := by
  go_enter Try.func86, Try.ntmps86
  go_wp2_with fail
  go_loop [5] (fun i => ∃ k : Nat, k ≤ zs.length ∧ i = .int .i64 k ∧ (zs.take k).all (· != n) = true) (fun i => zs.length - (intOf i).toNat)
  case atStart => exact ⟨0, Nat.zero_le _, rfl, by simp⟩
  case round =>
    obtain ⟨k, hk, rfl, hall⟩ := hrel
    have HA := Lib.hid hall
    clear hall
    by_cases hlt : k < zs.length
    · obtain ⟨b, off, x, rfl, hlb, hl, h0⟩ := hz.at_ hlt
      have HL := Lib.hid hl
      clear hz hl
      by_cases hv : x = n
      · subst hv
        have hv2 : (x == x) = true := by simp
        go_wp2_with fail
        go_ret
        exact ⟨ret_bool (hasB_yes HL.out).symm, rfl⟩
      · have HV := Lib.hid (show (x != n) = true by simpa using hv)
        have hv2 : (x == n) = false := by simpa using hv
        clear hv
        go_wp2_with fail
        go_round
        case rel => exact ⟨k + 1, by omega, by go_num, all_snoc HA.out HL.out HV.out⟩
        case measure => simp [intOf]; omega
    · go_wp2_with fail
      go_ret
      exact ⟨ret_bool (hasB_no HA.out hlt).symm, rfl⟩

end Go.Proofs.Ytmigkbimdjiigaa

/- Suites of the document: what rows meet, open goals, sets of rows: contracts. -/
set_option linter.unusedVariables false
set_option linter.unusedSimpArgs false
namespace Tinker
/-- Whether a list is a set of numbers below n, one after another. -/
def isB (l : List Int) (n : Int) (i : Nat) : Bool := !(decide (l.getD i 0 < 0) || decide (n ≤ l.getD i 0) || (decide (0 < i) && decide (l.getD i 0 ≤ l.getD (i - 1) 0)))
theorem isB_all {l : List Int} {n : Int} : (List.range l.length).all (isB l n) = (isSetB l && allBtw l 0 (n - 1)) := by
  rw [Bool.eq_iff_iff, List.all_eq_true, Bool.and_eq_true, isSetB_iff]
  unfold isB
  constructor
  · intro h
    refine ⟨fun i hi => ?_, ?_⟩
    · have := h (i + 1) (List.mem_range.2 hi)
      simp at this
      simp only [List.getD_eq_getElem?_getD]
      omega
    · refine List.all_eq_true.2 fun x hx => ?_
      obtain ⟨i, hi⟩ := List.getElem?_of_mem hx
      have hlt := (List.getElem?_eq_some_iff.1 hi).1
      have h2 := h i (List.mem_range.2 hlt)
      rw [getD_of_get hi] at h2
      simp at h2
      exact btw_true.2 (by omega)
  · rintro ⟨h1, h2⟩ i hi
    rw [List.mem_range] at hi
    obtain ⟨x, hx⟩ := get_of_lt hi
    have h3 := btw_true.1 (List.all_eq_true.1 h2 x (mem_of_get hx))
    rw [getD_of_get hx]
    by_cases h0 : 0 < i
    · have h4 := h1 (i - 1) (by omega)
      rw [show i - 1 + 1 = i by omega, getD_of_get hx] at h4
      simp only [List.getD_eq_getElem?_getD] at h4
      simp
      omega
    · simp
      omega
end Tinker
namespace Go.Proofs.Ytmigkbimdjiigaa
open Go.RowKit Tinker

set_option maxRecDepth 100000 in
set_option maxHeartbeats 1000000 in
theorem rAll8_any (n : Nat) (hn : n ≤ 1000) (w : World) :
    Calls Try.prog 108 #[.int .i64 n] w (GivesInts (allL n) w) := by
  obtain ⟨i0, hi, hz0, hz1, hz2⟩ := info_parts info_int
  go_enter Try.func108, Try.ntmps108
  go_wp2_with fail
  go_loopw [3, 4] (fun s3 s4 wr => ∃ k : Nat, k ≤ n ∧ s4 = .int .i64 k ∧ wr.ownsRow w.heap.size 3 1 s3 (allL k).length ((allL k).map (Value.int .i64)) ∧ Below w.heap.size w wr) (fun _ s4 _ => n - (intOf s4).toNat)
  case atStart => exact ⟨0, Nat.zero_le _, rfl, World.ownsRow_nil _ _ _ _, Below.refl _ _⟩
  case round =>
    obtain ⟨k, hk, rfl, hown, hB⟩ := hrel
    by_cases hlt : k < n
    · go_wp2_with (at_builtin; refine wpList_append_own _ rfl (.tmp 10) (.tmp 12) 23 rfl w.heap.size 3 i0 (.int .i64 0) 1 8 Try.underlying23 hi hz0 hz1 hz2 rfl (by decide) _ _ _ rfl (hown.alloc _) ⟨wr.heap.size, 0, none⟩ 1 1 [.int .i64 k] rfl rfl ?c1 ?c2 ?c3 ?c4 ?c5 ?_)
      case c1 => exact cell_one_new _ _ _
      case c2 => simp [Value.oneCell']
      case c3 => have := allL_len k; unfold maxLen; omega
      case c4 => have := allL_len k; omega
      case c5 => have := hB.size; simp; omega
      intro v' w1 hown' hgrow _
      have hB1 : Below w.heap.size w w1 := (hB.alloc hB.size _).grown hgrow (by have := hB.size; simp; omega) (own_base hown)
      have e : (allL k).map (Value.int .i64) ++ [.int .i64 k] = (allL (k + 1)).map (Value.int .i64) := by unfold allL; rw [List.range_succ]; simp
      have e2 : (allL k).length + 1 = (allL (k + 1)).length := by rw [allL_len, allL_len]
      rw [e, e2] at hown'
      have HO := Lib.hid hown'
      clear hown hown' hgrow e e2
      go_wp2_with fail
      go_roundw
      case rel => exact ⟨k + 1, by omega, by go_num, HO.out, hB1⟩
      case measure => simp [intOf]; omega
    · obtain rfl : k = n := by omega
      have HO := Lib.hid hown
      clear hown
      go_wp2_with fail
      go_ret
      exact givesInts_of rfl HO.out hB

set_option maxRecDepth 100000 in
set_option maxHeartbeats 2000000 in
theorem rMetL_any (a b : Option Addr) (ca cb : Nat) (t : List (List Int)) (rows : List Int) (w : World) (ht : RowsAt w a t) (hr : IntsAt w b rows) (hv : vsu t = 0) (hb : ∀ x ∈ rows, 0 ≤ x ∧ x < (t.length : Int)) (hrl : rows.length ≤ 1000) :
    Calls Try.prog 65 #[.slice a t.length ca, .slice b rows.length cb] w (GivesInts (metL t rows) w) := by
  obtain ⟨i0, hi, hz0, hz1, hz2⟩ := info_parts info_int
  have HG := Lib.hid (fun w ht => rGoals8_any a ca t w ht)
  have HT := Lib.hid ht
  have HR := Lib.hid hr
  have HBB := Lib.hid hb
  have HRA := Lib.hid (fun (r : Nat) (z : List Int) (h : t[r]? = some z) => row_at hv h)
  obtain ⟨_, hg10, _⟩ := vsu_ok hv
  unfold metL
  generalize goalsN t = G at *
  clear ht hr hb hv
  go_enter Try.func65, Try.ntmps65
  go_wp2_with fail
  go_loopw [5, 6] (fun s5 s6 wr => ∃ k : Nat, k ≤ G ∧ s6 = .int .i64 k ∧ wr.ownsRow w.heap.size 3 1 s5 (metTL t rows k).length ((metTL t rows k).map (Value.int .i64)) ∧ Below w.heap.size w wr) (fun _ s6 _ => G - (intOf s6).toNat)
  case atStart => exact ⟨0, Nat.zero_le _, rfl, World.ownsRow_nil _ _ _ _, Below.refl _ _⟩
  case round =>
    obtain ⟨k, hk, rfl, hown, hB⟩ := hrel
    have hl := metTL_len t rows k
    have HGG := Lib.hid (HG.out wr (HT.out.below hB (Nat.le_refl _)))
    obtain ⟨av, cv, rfl⟩ := own_slice hown
    have HO := Lib.hid hown
    have HB := Lib.hid hB
    clear hown hB
    by_cases hlt : k < G
    · go_wp2_with fail
      refine HGG.out.mono ?_
      rintro e w' ⟨rfl, rfl⟩
      obtain ⟨W0, hW0⟩ : ∃ W, W = wr := ⟨_, rfl⟩
      subst hW0
      go_wp2_with fail
      go_loopw [5, 7] (fun s5 s7 wx => ∃ j : Nat, j ≤ rows.length ∧ s7 = .int .i64 j ∧ (rows.take j).all (fun r => !((t.getD r.toNat []).getD k 0 == 1)) = true ∧ s5 = .slice av (metTL t rows k).length cv ∧ W0 = wx) (fun _ s7 _ => rows.length - (intOf s7).toNat)
      case atStart => exact ⟨0, Nat.zero_le _, rfl, by simp, rfl, rfl⟩
      case round =>
        obtain ⟨j, hj, rfl, hallj, rfl, rfl⟩ := hrel
        have HAJ := Lib.hid hallj
        clear hallj
        by_cases hjl : j < rows.length
        · obtain ⟨b2, off2, x, rfl, hlb2, hx, hc⟩ := (HR.out.below HB.out (Nat.le_refl _)).at_ hjl
          obtain ⟨x0, x1⟩ := HBB.out x (mem_of_get hx)
          obtain ⟨r, rfl⟩ : ∃ r : Nat, x = (r : Int) := ⟨x.toNat, by omega⟩
          have hrt : r < t.length := by omega
          obtain ⟨b3, off3, z, a1, c1, rfl, hlb3, hz, hcz, hiz⟩ := (HT.out.below HB.out (Nat.le_refl _)).at_ hrt
          have hzl := HRA.out r z hz
          obtain ⟨b4, off4, y, rfl, hlb4, hy, hcy⟩ := hiz.at_ (show k < z.length by omega)
          have HD := Lib.hid (show ((t.getD ((r : Int)).toNat []).getD k 0 == 1) = (y == 1) by rw [show ((r : Int)).toNat = r from rfl, getD_of_get hz, getD_of_get hy])
          have HX := Lib.hid hx
          clear hx hz hiz hy
          cases hyb : (y == 1)
          · have HD := Lib.hid (HD.out.trans hyb)
            go_wp2_with fail
            go_roundw
            case rel => exact ⟨j + 1, by omega, by go_num, all_snoc HAJ.out HX.out (by rw [HD.out]; rfl), by first | trivial | rfl, by first | trivial | rfl⟩
            case measure => simp [intOf]; omega
          · have HH := Lib.hid (show hitB t rows k = true from List.any_eq_true.2 ⟨(r : Int), mem_of_get HX.out, HD.out.trans hyb⟩)
            have hown := HO.out
            go_wp2_with (at_builtin; refine wpList_append_own _ rfl (.tmp 31) (.tmp 33) 23 rfl w.heap.size 3 i0 (.int .i64 0) 1 8 Try.underlying23 hi hz0 hz1 hz2 rfl (by decide) _ _ _ rfl (hown.alloc _) ⟨W0.heap.size, 0, none⟩ 1 1 [.int .i64 k] rfl rfl ?c1 ?c2 ?c3 ?c4 ?c5 ?_)
            case c1 => exact cell_one_new _ _ _
            case c2 => simp [Value.oneCell']
            case c3 => unfold maxLen; omega
            case c4 => omega
            case c5 => have := HB.out.size; simp; omega
            intro v' w1 hown' hgrow _
            have hB1 : Below w.heap.size w w1 := (HB.out.alloc HB.out.size _).grown hgrow (by have := HB.out.size; simp; omega) (own_base hown)
            have e : (metTL t rows k).map (Value.int .i64) ++ [.int .i64 k] = (metTL t rows (k + 1)).map (Value.int .i64) := by rw [metTL_yes HH.out]; simp
            have e2 : (metTL t rows k).length + 1 = (metTL t rows (k + 1)).length := by rw [metTL_yes HH.out]; simp
            rw [e, e2] at hown'
            have HO2 := Lib.hid hown'
            clear hown hown' hgrow e e2 HO
            go_wp2_with fail
            go_roundw
            case rel => exact ⟨k + 1, by omega, by go_num, HO2.out, hB1⟩
            case measure => simp [intOf]; omega
        · have HN := Lib.hid (show hitB t rows k = false by
            unfold hitB
            rw [List.any_eq_false]
            intro r hr
            have := List.all_eq_true.1 (all_whole HAJ.out hjl) r hr
            simpa using this)
          go_wp2_with fail
          go_roundw
          case rel => exact ⟨k + 1, by omega, by go_num, by rw [metTL_no HN.out]; exact HO.out, HB.out⟩
          case measure => simp [intOf]; omega
    · obtain rfl : k = G := by omega
      go_wp2_with fail
      refine HGG.out.mono ?_
      rintro e w' ⟨rfl, rfl⟩
      go_wp2_with fail
      go_ret
      exact givesInts_of rfl HO.out HB.out

/-- What rows meet, as a mask says it. -/
theorem rMet_any (a b : Option Addr) (ca cb : Nat) (t : List (List Int)) (rows : List Int) (w : World) (ht : RowsAt w a t) (hr : IntsAt w b rows) (hv : vsu t = 0) (hb : ∀ x ∈ rows, 0 ≤ x ∧ x < (t.length : Int)) (hrl : rows.length ≤ 1000) :
    Calls Try.prog 65 #[.slice a t.length ca, .slice b rows.length cb] w (GivesInts (numsK (metM (tblM t) (maskM rows))) w) := by
  rw [← metL_eq hv hb]
  exact rMetL_any a b ca cb t rows w ht hr hv hb hrl
set_option maxRecDepth 100000 in
set_option maxHeartbeats 1000000 in
theorem rOpenL_any (a : Option Addr) (ca : Nat) (t : List (List Int)) (w : World) (ht : RowsAt w a t) (hv : vsu t = 0) :
    Calls Try.prog 60 #[.slice a t.length ca] w (GivesInts (numsK (openM (tblM t))) w) := by
  have hl8 := (vsu_ok hv).1
  have HA := Lib.hid (show Calls Try.prog 108 #[.int .i64 t.length] w (fun e w' => ∃ a c, e = .returned (.slice a t.length c) ∧ w'.ownsRow w.heap.size 3 1 (.slice a t.length c) t.length ((allL t.length).map (Value.int .i64)) ∧ Below w.heap.size w w') from by
    refine (rAll8_any t.length (by omega) w).mono ?_
    rintro e w' ⟨a', c', he, ho, hB⟩
    rw [allL_len] at he ho
    exact ⟨a', c', he, ho, hB⟩)
  have HM := Lib.hid (fun b cb w ht hr => rMetL_any a b ca cb t (allL t.length) w ht hr hv allL_in (by rw [allL_len]; omega))
  rw [openL_eq hv, allL_len] at HM
  have HT := Lib.hid ht
  clear ht hv
  generalize numsK (openM (tblM t)) = Z at *
  go_enter Try.func60, Try.ntmps60
  go_wp2_with fail
  refine HA.out.mono ?_
  rintro e w1 ⟨a1, c1, rfl, ho, hB⟩
  have HI := Lib.hid (ints_of_own ho).1
  have HB := Lib.hid hB
  clear ho hB
  go_wp2_with fail
  refine (HM.out _ _ _ (HT.out.below HB.out (Nat.le_refl _)) HI.out).mono ?_
  rintro e w3 h3
  have HG := Lib.hid (h3.wide HB.out)
  obtain ⟨a3, c3, rfl, -, -⟩ := h3
  go_wp2_with fail
  go_ret
  exact HG.out

set_option maxRecDepth 100000 in
set_option maxHeartbeats 4000000 in
theorem rIsSet8_any (a : Option Addr) (cap : Nat) (l : List Int) (n : Int) (w : World) (hz : IntsAt w a l) (hm : l.length ≤ 1000) :
    Calls Try.prog 110 #[.slice a l.length cap, .int .i64 n] w fun e w' => e = .returned (.bool (isSetB l && allBtw l 0 (n - 1))) ∧ Below w.heap.size w w' := by
  rw [← isB_all]
  have HZ := Lib.hid hz
  clear hz
  go_enter Try.func110, Try.ntmps110
  go_wp2_with fail
  go_loopw [5] (fun i wr => ∃ k : Nat, k ≤ l.length ∧ i = .int .i64 k ∧ (List.range k).all (isB l n) = true ∧ Below w.heap.size w wr) (fun i _ => l.length - (intOf i).toNat)
  case atStart => exact ⟨0, Nat.zero_le _, rfl, by simp, Below.refl _ _⟩
  case round =>
    obtain ⟨k, hk, rfl, hall, hB⟩ := hrel
    have HA := Lib.hid hall
    have HB := Lib.hid hB
    have HBD := Lib.hid (fun m => show Below w.heap.size w (wr.drewN m) from hB.trans (Below.mono ⟨rfl, rfl, rfl, Nat.le_refl _, fun _ _ => rfl⟩ hB.size))
    clear hall hB
    by_cases hlt : k < l.length
    · obtain ⟨b, off, x, rfl, hlb, hx, h0⟩ := (HZ.out.below HB.out (Nat.le_refl _)).at_ hlt
      have hxd : l.getD k 0 = x := getD_of_get hx
      have HD := Lib.hid (show isB l n k = !(decide (x < 0) || decide (n ≤ x) || (decide (0 < k) && decide (x ≤ l.getD (k - 1) 0))) by unfold isB; rw [hxd])
      have HNO := Lib.hid (fun h : isB l n k = false => show (List.range l.length).all (isB l n) = false from by
        rw [Bool.eq_false_iff]
        intro h2
        have := List.all_eq_true.1 h2 k (List.mem_range.2 hlt)
        rw [h] at this
        cases this)
      have HYES := Lib.hid (fun h : isB l n k = true => show (List.range (k + 1)).all (isB l n) = true from by
        rw [List.range_succ, List.all_append, HA.out]
        simp [h])
      clear hx hxd
      by_cases c1 : x < 0
      · have d1 : decide (x < 0) = true := decide_eq_true c1
        have HQ := Lib.hid (HNO.out (by rw [HD.out, d1]; rfl))
        clear c1 HD HNO HYES
        go_wp2_with fail
        go_quiet (fail)
        go_wp2_with fail
        go_ret
        exact ⟨ret_bool HQ.out.symm, (by first | exact HBD.out _ | exact HBD.out 1)⟩
      · have d1 : decide (x < 0) = false := decide_eq_false c1
        by_cases c2 : n ≤ x
        · have d2 : decide (n ≤ x) = true := decide_eq_true c2
          have HQ := Lib.hid (HNO.out (by rw [HD.out, d1, d2]; rfl))
          clear c1 c2 HD HNO HYES
          go_wp2_with fail
          go_quiet (fail)
          go_wp2_with fail
          go_ret
          exact ⟨ret_bool HQ.out.symm, (by first | exact HBD.out _ | exact HBD.out 1)⟩
        · have d2 : decide (n ≤ x) = false := decide_eq_false c2
          by_cases c3 : 0 < k
          · have d3 : decide ((0 : Int) < (k : Int)) = true := decide_eq_true (by omega)
            have d3n : decide (0 < k) = true := decide_eq_true c3
            obtain ⟨b', off', y, e', hlb', hy, h1⟩ := (HZ.out.below HB.out (Nat.le_refl _)).at_ (show k - 1 < l.length by omega)
            injection e' with e'
            injection e' with e1 e2
            subst e1 e2
            have hyd : l.getD (k - 1) 0 = y := getD_of_get hy
            rw [hyd] at HD
            have hk1 : IntKind.i64.wrap ((k : Int) - 1) = ((k - 1 : Nat) : Int) := by rw [show ((k : Int) - 1) = ((k - 1 : Nat) : Int) by omega]; exact IntWalk.i64_in _ (by omega)
            have hk0 : (0 : Int) ≤ ((k - 1 : Nat) : Int) := Int.natCast_nonneg _
            have hk2 : ((k - 1 : Nat) : Int) < (l.length : Int) := by omega
            have hk3 : (((k - 1 : Nat) : Int)).toNat = k - 1 := rfl
            clear hy hyd
            by_cases c4 : x ≤ y
            · have d4 : decide (x ≤ y) = true := decide_eq_true c4
              have HQ := Lib.hid (HNO.out (by rw [HD.out, d1, d2, d3n, d4]; rfl))
              clear c1 c2 c4 HD HNO HYES
              go_wp2_with fail
              go_quiet (fail)
              go_wp2_with fail
              go_ret
              exact ⟨ret_bool HQ.out.symm, (by first | exact HBD.out _ | exact HBD.out 1)⟩
            · have d4 : decide (x ≤ y) = false := decide_eq_false c4
              have HQ := Lib.hid (HYES.out (by rw [HD.out, d1, d2, d3n, d4]; rfl))
              clear c1 c2 c4 HD HNO HYES
              go_wp2_with fail
              go_quiet (fail)
              go_wp2_with fail
              go_roundw
              case rel => exact ⟨k + 1, by omega, by go_num, HQ.out, (by first | exact HBD.out _ | exact HBD.out 1)⟩
              case measure => simp [intOf]; omega
          · have d3 : decide ((0 : Int) < (k : Int)) = false := decide_eq_false (by omega)
            have d3n : decide (0 < k) = false := decide_eq_false c3
            have HQ := Lib.hid (HYES.out (by rw [HD.out, d1, d2, d3n]; rfl))
            clear c1 c2 HD HNO HYES
            go_wp2_with fail
            go_quiet (fail)
            go_wp2_with fail
            go_roundw
            case rel => exact ⟨k + 1, by omega, by go_num, HQ.out, (by first | exact HBD.out _ | exact HBD.out 1)⟩
            case measure => simp [intOf]; omega
    · obtain rfl : k = l.length := by omega
      go_wp2_with fail
      go_ret
      exact ⟨ret_bool HA.out.symm, HB.out⟩

end Go.Proofs.Ytmigkbimdjiigaa

/- Suites of the document: Open, Met, CheckCover: contracts. -/
set_option linter.unusedVariables false
set_option linter.unusedSimpArgs false
namespace Tinker
theorem szK_nil {m : Nat} (hm : m < 1024) (h : szK m = 0) : m = 0 := by
  have h2 : numsK m = [] := List.eq_nil_of_length_eq_zero h
  refine eq_bitsK hm (by omega) fun i hi => ?_
  rw [Nat.zero_testBit]
  cases hb : m.testBit i
  · rfl
  · have : (i : Int) ∈ numsK m := numsK_memN.2 ⟨hi, hb⟩
    rw [h2] at this
    simp at this
theorem met_left {s : List Nat} (hv : ∀ x ∈ s, x < 1024) (S : Nat) : szK (openM s) = szK (metM s S) + szK (leftM s S) := by
  rw [← szK_or (a := metM s S) (b := leftM s S) (fun i hi => by
    unfold leftM
    rw [difK_bit, hi]
    simp)]
  congr 1
  refine eq_bitsK (openM_lt hv) (or_ltK (metM_lt hv S) (leftM_lt hv S)) fun i _ => ?_
  rw [Nat.testBit_or]
  unfold leftM
  rw [difK_bit]
  cases hm : (metM s S).testBit i
  · simp
  · rw [met_open hm]; rfl
theorem cov_sz {s : List Nat} (hv : ∀ x ∈ s, x < 1024) (S : Nat) : covB s S = (szK (metM s S) == szK (openM s)) := by
  have h := met_left hv S
  rw [Bool.eq_iff_iff, beq_iff_eq]
  unfold covB
  rw [beq_iff_eq]
  constructor
  · intro h0; rw [h0, szK_zero] at h; omega
  · intro h0; exact szK_nil (leftM_lt hv S) (by omega)
end Tinker
namespace Go.Proofs.Ytmigkbimdjiigaa
open Go.RowKit Tinker

set_option maxRecDepth 100000 in
set_option maxHeartbeats 1000000 in
theorem rRowed_any (a b : Option Addr) (ca cb : Nat) (t : List (List Int)) (rows : List Int) (w : World) (ht : RowsAt w a t) (hr : IntsAt w b rows) (hl : t.length ≤ 1000) (hm : ∀ z ∈ t, z.length ≤ 1000) (hrl : rows.length ≤ 1000) :
    Calls Try.prog 64 #[.slice a t.length ca, .slice b rows.length cb] w fun e w' => e = .returned (.int .i64 (vsr t rows)) ∧ Below w.heap.size w w' := by
  have HV := Lib.hid (rValidate8_any a ca t w ht hl hm)
  have HS := Lib.hid (fun w hr => rIsSet8_any b cb rows (t.length : Int) w hr hrl)
  have HR := Lib.hid hr
  unfold vsr
  clear ht hm hr
  by_cases hv : vsu t = 0
  · rw [if_pos hv]
    rw [hv] at HV
    clear hv
    cases hs : (isSetB rows && allBtw rows 0 ((t.length : Int) - 1))
    · rw [hs] at HS
      rw [if_neg (by decide)]
      clear hs
      go_enter Try.func64, Try.ntmps64
      go_wp2_with fail
      refine HV.out.mono ?_
      rintro e w1 ⟨rfl, hB1⟩
      go_wp2_with fail
      refine (HS.out _ (HR.out.below hB1 (Nat.le_refl _))).mono ?_
      rintro e w2 ⟨rfl, hB⟩
      go_wp2_with fail
      go_ret
      exact ⟨rfl, hB1.trans (hB.mono hB1.size)⟩
    · rw [hs] at HS
      rw [if_pos rfl]
      clear hs
      go_enter Try.func64, Try.ntmps64
      go_wp2_with fail
      refine HV.out.mono ?_
      rintro e w1 ⟨rfl, hB1⟩
      go_wp2_with fail
      refine (HS.out _ (HR.out.below hB1 (Nat.le_refl _))).mono ?_
      rintro e w2 ⟨rfl, hB⟩
      go_wp2_with fail
      go_ret
      exact ⟨rfl, hB1.trans (hB.mono hB1.size)⟩
  · rw [if_neg hv]
    have hne : (vsu t != 0) = true := by simpa using hv
    clear hv
    go_enter Try.func64, Try.ntmps64
    go_wp2_with fail
    refine HV.out.mono ?_
    rintro e w' ⟨rfl, hB⟩
    go_wp2_with fail
    go_ret
    exact ⟨rfl, hB⟩

set_option maxRecDepth 100000 in
set_option maxHeartbeats 1000000 in
theorem rOpen8_any (a : Option Addr) (ca : Nat) (t : List (List Int)) (w : World) (ht : RowsAt w a t) (hl : t.length ≤ 1000) (hm : ∀ z ∈ t, z.length ≤ 1000) :
    Calls Try.prog 20 #[.slice a t.length ca] w (GivesIntsE (if vsu t = 0 then numsK (openM (tblM t)) else []) (vsu t) w) := by
  have HV := Lib.hid (rValidate8_any a ca t w ht hl hm)
  by_cases hv : vsu t = 0
  · rw [if_pos hv]
    rw [hv] at HV ⊢
    have HO := Lib.hid (fun w ht => rOpenL_any a ca t w ht hv)
    have HT := Lib.hid ht
    clear ht hm hv
    go_enter Try.func20, Try.ntmps20
    go_wp2_with fail
    refine HV.out.mono ?_
    rintro e w1 ⟨rfl, hB1⟩
    go_wp2_with fail
    refine (HO.out _ (HT.out.below hB1 (Nat.le_refl _))).mono ?_
    rintro e w3 h3
    have HG := Lib.hid (h3.wide hB1)
    obtain ⟨a3, c3, rfl, -, -⟩ := h3
    clear hB1
    go_wp2_with fail
    go_ret2
    exact HG.out.withE
  · rw [if_neg hv]
    have hne : (vsu t != 0) = true := by simpa using hv
    clear hv ht hm
    go_enter Try.func20, Try.ntmps20
    go_wp2_with fail
    refine HV.out.mono ?_
    rintro e w' ⟨rfl, hB⟩
    go_wp2_with fail
    go_ret2
    exact ⟨none, 0, rfl, World.ownsRow_nil _ _ _ _, hB⟩

set_option maxRecDepth 100000 in
set_option maxHeartbeats 1000000 in
theorem rMet8_any (a b : Option Addr) (ca cb : Nat) (t : List (List Int)) (rows : List Int) (w : World) (ht : RowsAt w a t) (hr : IntsAt w b rows) (hl : t.length ≤ 1000) (hm : ∀ z ∈ t, z.length ≤ 1000) (hrl : rows.length ≤ 1000) :
    Calls Try.prog 22 #[.slice a t.length ca, .slice b rows.length cb] w (GivesIntsE (if vsr t rows = 0 then numsK (metM (tblM t) (maskM rows)) else []) (vsr t rows) w) := by
  have HV := Lib.hid (rRowed_any a b ca cb t rows w ht hr hl hm hrl)
  by_cases hv : vsr t rows = 0
  · rw [if_pos hv]
    rw [hv] at HV ⊢
    obtain ⟨hv1, hv2, hv3⟩ := vsr_ok hv
    have HO := Lib.hid (fun w ht hr => rMet_any a b ca cb t rows w ht hr hv1 hv3 hrl)
    have HT := Lib.hid ht
    have HR := Lib.hid hr
    clear ht hm hv hr hv1 hv2 hv3
    go_enter Try.func22, Try.ntmps22
    go_wp2_with fail
    refine HV.out.mono ?_
    rintro e w1 ⟨rfl, hB1⟩
    go_wp2_with fail
    refine (HO.out _ (HT.out.below hB1 (Nat.le_refl _)) (HR.out.below hB1 (Nat.le_refl _))).mono ?_
    rintro e w3 h3
    have HG := Lib.hid (h3.wide hB1)
    obtain ⟨a3, c3, rfl, -, -⟩ := h3
    clear hB1
    go_wp2_with fail
    go_ret2
    exact HG.out.withE
  · rw [if_neg hv]
    have hne : (vsr t rows != 0) = true := by simpa using hv
    clear hv ht hm hr
    go_enter Try.func22, Try.ntmps22
    go_wp2_with fail
    refine HV.out.mono ?_
    rintro e w' ⟨rfl, hB⟩
    go_wp2_with fail
    go_ret2
    exact ⟨none, 0, rfl, World.ownsRow_nil _ _ _ _, hB⟩

set_option maxRecDepth 100000 in
set_option maxHeartbeats 1000000 in
theorem rCheck8_any (a b : Option Addr) (ca cb : Nat) (t : List (List Int)) (rows : List Int) (w : World) (ht : RowsAt w a t) (hr : IntsAt w b rows) (hl : t.length ≤ 1000) (hm : ∀ z ∈ t, z.length ≤ 1000) (hrl : rows.length ≤ 1000) :
    Calls Try.prog 27 #[.slice a t.length ca, .slice b rows.length cb] w fun e w' => e = .returned (.int .i64 (chkC t rows)) ∧ Below w.heap.size w w' := by
  have HV := Lib.hid (rRowed_any a b ca cb t rows w ht hr hl hm hrl)
  unfold chkC
  by_cases hv : vsr t rows = 0
  · rw [if_pos hv]
    rw [hv] at HV
    obtain ⟨hv1, hv2, hv3⟩ := vsr_ok hv
    have HM := Lib.hid (fun w ht hr => rMet_any a b ca cb t rows w ht hr hv1 hv3 hrl)
    have HO := Lib.hid (fun w ht => rOpenL_any a ca t w ht hv1)
    have HC := Lib.hid (cov_sz (tblM_lt hv1) (maskM rows))
    have HT := Lib.hid ht
    have HR := Lib.hid hr
    rw [HC.out]
    have HD := Lib.hid (show (((numsK (metM (tblM t) (maskM rows))).length : Int) != ((numsK (openM (tblM t))).length : Int)) = !(szK (metM (tblM t) (maskM rows)) == szK (openM (tblM t))) from by
      show (((szK _ : Nat) : Int) != ((szK _ : Nat) : Int)) = _
      rw [Bool.eq_iff_iff, bne_iff_ne, Bool.not_eq_true', beq_eq_false_iff_ne]
      omega)
    generalize (szK (metM (tblM t) (maskM rows)) == szK (openM (tblM t))) = B at HD ⊢
    generalize numsK (metM (tblM t) (maskM rows)) = M at *
    generalize numsK (openM (tblM t)) = O at *
    clear ht hm hv hr hv1 hv2 hv3 HC
    cases B
    · have hd : ((M.length : Int) != (O.length : Int)) = true := HD.out
      rw [if_neg (by decide)]
      clear HD
      go_enter Try.func27, Try.ntmps27
      go_wp2_with fail
      refine HV.out.mono ?_
      rintro e w1 ⟨rfl, hB1⟩
      go_wp2_with fail
      refine (HM.out _ (HT.out.below hB1 (Nat.le_refl _)) (HR.out.below hB1 (Nat.le_refl _))).mono ?_
      rintro e w2 ⟨a2, c2, rfl, -, hB⟩
      have hB2 := hB1.trans (hB.mono hB1.size)
      clear hB hB1
      go_wp2_with fail
      refine (HO.out _ (HT.out.below hB2 (Nat.le_refl _))).mono ?_
      rintro e w3 ⟨a3, c3, rfl, -, hB⟩
      have hB3 := hB2.trans (hB.mono hB2.size)
      clear hB hB2
      go_wp2_with fail
      go_ret
      exact ⟨rfl, hB3⟩
    · have hd : ((M.length : Int) != (O.length : Int)) = false := HD.out
      rw [if_pos rfl]
      clear HD
      go_enter Try.func27, Try.ntmps27
      go_wp2_with fail
      refine HV.out.mono ?_
      rintro e w1 ⟨rfl, hB1⟩
      go_wp2_with fail
      refine (HM.out _ (HT.out.below hB1 (Nat.le_refl _)) (HR.out.below hB1 (Nat.le_refl _))).mono ?_
      rintro e w2 ⟨a2, c2, rfl, -, hB⟩
      have hB2 := hB1.trans (hB.mono hB1.size)
      clear hB hB1
      go_wp2_with fail
      refine (HO.out _ (HT.out.below hB2 (Nat.le_refl _))).mono ?_
      rintro e w3 ⟨a3, c3, rfl, -, hB⟩
      have hB3 := hB2.trans (hB.mono hB2.size)
      clear hB hB2
      go_wp2_with fail
      go_ret
      exact ⟨rfl, hB3⟩
  · rw [if_neg hv]
    have hne : (vsr t rows != 0) = true := by simpa using hv
    clear hv ht hm hr
    go_enter Try.func27, Try.ntmps27
    go_wp2_with fail
    refine HV.out.mono ?_
    rintro e w' ⟨rfl, hB⟩
    go_wp2_with fail
    go_ret
    exact ⟨rfl, hB⟩

end Go.Proofs.Ytmigkbimdjiigaa
