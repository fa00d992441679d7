/- Blocker in the document's words: contracts. -/
import Derived.Test.YtgoidphamkpmdaaGreatOrd
set_option linter.unusedVariables false
set_option linter.unusedSimpArgs false
namespace Go.Proofs.YtgoidphamkpmdaaGreat
open Go.RowKit Tinker

/-- The smallest sets below a number. -/
def bkTo (f : List Nat) (k : Nat) : List Nat := (List.range k).filter fun m => hitsM f m && needM f m
theorem bkTo_yes {f : List Nat} {k : Nat} (h : (hitsM f k && needM f k) = true) : bkTo f (k + 1) = bkTo f k ++ [k] := by unfold bkTo; rw [List.range_succ, List.filter_append]; simp only [Bool.and_eq_true] at h; simp [h]
theorem bkTo_no {f : List Nat} {k : Nat} (h : (hitsM f k && needM f k) = false) : bkTo f (k + 1) = bkTo f k := by unfold bkTo; rw [List.range_succ, List.filter_append, List.filter_cons_of_neg (by simp [h])]; simp
theorem bkTo_len (f : List Nat) (k : Nat) : (bkTo f k).length ≤ k := by unfold bkTo; exact Nat.le_trans (List.length_filter_le _ _) (by simp)
/-- Whether none of the first numbers can be left out. -/
def ndTo (f : List Nat) (m k : Nat) : Bool := (nuTo m k).all fun n => !hitsM f (woM m n.toNat)
theorem ndTo_8 (f : List Nat) (m : Nat) : ndTo f m 8 = needM f m := rfl
theorem ndTo_no {f : List Nat} {m k : Nat} (h : m.testBit k = false) : ndTo f m (k + 1) = ndTo f m k := by unfold ndTo; rw [nuTo_no h]
theorem ndTo_yes {f : List Nat} {m k : Nat} (h : m.testBit k = true) : ndTo f m (k + 1) = (ndTo f m k && !hitsM f (woM m k)) := by unfold ndTo; rw [nuTo_yes h, List.all_append]; simp
theorem wo_int {m k : Nat} (hm : m < 256) (hk : k < 8) (hb : m.testBit k = true) : (m : Int) - 2 ^ k = ((woM m k : Nat) : Int) := by
  have h1 := wo_sub m hm k hk hb
  have h2 := Nat.ge_two_pow_of_testBit hb
  rw [powi, ← h1]
  omega

set_option maxRecDepth 100000 in
set_option maxHeartbeats 4000000 in
theorem rblocker_any (a : Option Addr) (cap : Nat) (ms : List Nat) (w : World) (hf : IntsAt w a (ni ms)) (hv : ∀ x ∈ ms, x < 256) (hl : ms.length ≤ 1000) :
    Calls Tryz.prog 37 #[.slice a ms.length cap] w (GivesInts (ni (bkTo ms 256)) w) := by
  obtain ⟨i0, hi, hz0, hz1, hz2⟩ := info_parts info_int
  have HH := Lib.hid (fun m hm w hf => rHits3_any a cap ms m hm w hf hv hl)
  have HF := Lib.hid hf
  clear hf hv
  go_enter Tryz.func37, Tryz.ntmps37
  go_wp2_with fail
  go_loopw [3, 4] (fun s3 s4 wr => ∃ m : Nat, m ≤ 256 ∧ s4 = .int .i64 m ∧ wr.ownsRow w.heap.size 3 1 s3 (bkTo ms m).length ((ni (bkTo ms m)).map (Value.int .i64)) ∧ Below w.heap.size w wr) (fun _ s4 _ => 256 - (intOf s4).toNat)
  case atStart => exact ⟨0, Nat.zero_le _, rfl, World.ownsRow_nil _ _ _ _, Below.refl _ _⟩
  case round =>
    obtain ⟨m, hm, rfl, hown, hB⟩ := hrel
    have HO := Lib.hid hown
    have HB := Lib.hid hB
    have hbl := bkTo_len ms m
    clear hown hB
    by_cases hlt : m < 256
    · have H1 := Lib.hid (HH.out m hlt wr (HF.out.below HB.out (Nat.le_refl _)))
      cases hb : hitsM ms m
      · have HE := Lib.hid (bkTo_no (f := ms) (k := m) (by rw [hb]; rfl))
        rw [hb] at H1
        clear hb
        go_wp2_with fail
        refine H1.out.mono ?_
        rintro e w1 ⟨rfl, rfl⟩
        go_wp2_with fail
        go_roundw
        case rel => exact ⟨m + 1, by omega, by go_num, by rw [HE.out]; exact HO.out, HB.out⟩
        case measure => simp [intOf]; omega
      · have HHB := Lib.hid hb
        rw [hb] at H1
        clear hb
        go_wp2_with fail
        refine H1.out.mono ?_
        rintro e w1 ⟨rfl, rfl⟩
        go_wp2_with fail
        go_loopw [5, 6] (fun s5 s6 wx => ∃ i : Nat, i ≤ 8 ∧ s6 = .int .i64 i ∧ s5 = .bool (ndTo ms m i) ∧ wx = wr) (fun _ s6 _ => 8 - (intOf s6).toNat)
        case atStart => exact ⟨0, Nat.zero_le _, rfl, rfl, rfl⟩
        case round =>
          obtain ⟨i, hi8, rfl, rfl, rfl⟩ := hrel
          by_cases hli : i < 8
          · have h4 : min i 64 = i := by omega
            have h6 : bits BinOp.and IntKind.i64 ((m : Int) / 2 ^ i) 1 = (m : Int) / 2 ^ i % 2 := by
              rw [show ((m : Int) / 2 ^ i) = ((m / 2 ^ i : Nat) : Int) by rw [powi]; exact (Int.natCast_ediv m (2 ^ i)).symm, show (1 : Int) = ((1 : Nat) : Int) from rfl, bits_and_i (b := 1) (Nat.lt_of_le_of_lt (Nat.div_le_self _ _) hlt) (by omega), Nat.and_one_is_mod]; rfl
            have h7 : ((m : Int) / 2 ^ i % 2 == 1) = m.testBit i := by
              rw [← shr_bit m hlt i hli, Nat.and_one_is_mod, show ((m : Int) / 2 ^ i) = ((m / 2 ^ i : Nat) : Int) by rw [powi]; exact (Int.natCast_ediv m (2 ^ i)).symm, Bool.eq_iff_iff, beq_iff_eq, beq_iff_eq]; omega
            cases hbi : m.testBit i
            · have HE := Lib.hid (ndTo_no (f := ms) hbi)
              rw [hbi] at h7
              clear hbi
              go_wp2_with fail
              go_roundw
              case rel => exact ⟨i + 1, by omega, by go_num, by rw [HE.out], trivial⟩
              case measure => simp [intOf]; omega
            · have HE := Lib.hid (ndTo_yes (f := ms) hbi)
              have h8 := wo_int hlt hli hbi
              have h9 := wrap_powi hli
              have h10 : (1 : Int) ≤ 2 ^ i ∧ (2 : Int) ^ i ≤ 255 := by have := pow8 hli; rw [powi]; omega
              have HW := Lib.hid (HH.out (woM m i) (wo_lt m hlt i hli) wr (HF.out.below HB.out (Nat.le_refl _)))
              rw [hbi] at h7
              obtain ⟨h10, h11⟩ := h10
              clear hbi
              generalize ndTo ms m i = N at HE
              cases hq : hitsM ms (woM m i)
              · rw [hq] at HW HE
                clear hq
                go_wp2_with fail
                refine HW.out.mono ?_
                rintro e w2 ⟨rfl, rfl⟩
                go_wp2_with fail
                go_roundw
                case rel => exact ⟨i + 1, by omega, by go_num, by rw [HE.out]; simp, trivial⟩
                case measure => simp [intOf]; omega
              · rw [hq] at HW HE
                clear hq
                go_wp2_with fail
                refine HW.out.mono ?_
                rintro e w2 ⟨rfl, rfl⟩
                go_wp2_with fail
                go_roundw
                case rel => exact ⟨i + 1, by omega, by go_num, by rw [HE.out]; simp, trivial⟩
                case measure => simp [intOf]; omega
          · obtain rfl : i = 8 := by omega
            rw [ndTo_8]
            cases hn : needM ms m
            · have HE := Lib.hid (bkTo_no (f := ms) (k := m) (by rw [hn, Bool.and_false]))
              clear hn
              go_wp2_with fail
              go_roundw
              case rel => exact ⟨m + 1, by omega, by go_num, by rw [HE.out]; exact HO.out, HB.out⟩
              case measure => simp [intOf]; omega
            · have HE := Lib.hid (bkTo_yes (f := ms) (k := m) (by rw [HHB.out, hn]; rfl))
              clear hn
              have hown := HO.out
              go_wp2_with (at_builtin; refine wpList_append_own _ rfl (.tmp 35) (.tmp 37) 34 rfl w.heap.size 3 i0 (.int .i64 0) 1 8 Tryz.underlying34 hi hz0 hz1 hz2 rfl (by decide) _ _ _ rfl (hown.alloc _) ⟨wr.heap.size, 0, none⟩ 1 1 [.int .i64 m] rfl rfl ?c1 ?c2 ?c3 ?c4 ?c5 ?_)
              case c1 => exact cell_one_new _ _ _
              case c2 => simp [Value.oneCell']
              case c3 => unfold maxLen; omega
              case c4 => omega
              case c5 => have := HB.out.size; simp; omega
              intro v' w1 hown' hgrow _
              have hB1 : Below w.heap.size w w1 := (HB.out.alloc HB.out.size _).grown hgrow (by have := HB.out.size; simp; omega) (own_base hown)
              have e : (ni (bkTo ms m)).map (Value.int .i64) ++ [.int .i64 (m : Int)] = (ni (bkTo ms (m + 1))).map (Value.int .i64) := by rw [HE.out]; simp [ni]
              have e2 : (bkTo ms m).length + 1 = (bkTo ms (m + 1)).length := by rw [HE.out]; simp
              rw [e, e2] at hown'
              have HO' := Lib.hid hown'
              clear hown hown' hgrow e e2
              go_wp2_with fail
              go_roundw
              case rel => exact ⟨m + 1, by omega, by go_num, HO'.out, hB1⟩
              case measure => simp [intOf]; omega
    · obtain rfl : m = 256 := by omega
      go_wp2_with fail
      go_ret
      exact givesInts_of (by rw [ni_len]) HO.out HB.out

theorem bk_256 (f : List Nat) : ordL (bkTo f 256) = (blkM f).map numsM := ord_range _

end Go.Proofs.YtgoidphamkpmdaaGreat
