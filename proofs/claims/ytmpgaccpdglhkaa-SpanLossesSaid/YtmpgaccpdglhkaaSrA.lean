/- The document's side of boxes: within, Validate. -/
import Derived.Test.YtmpgaccpdglhkaaSpB
import Derived.Test.YtmpgaccpdglhkaaSpJ
import Derived.Test.YtmpgaccpdglhkaaSpE
import Derived.BigQuiet
import Derived.Deep.QuietTactic
set_option linter.unusedVariables false
set_option linter.unusedSimpArgs false
namespace Go.Proofs.Ytmpgaccpdglhkaa
open Go.RowKit Tinker

set_option maxHeartbeats 400000 in
theorem rWithin6_any (n lo hi : Int) (w : World) :
    Calls Try.prog 48 #[.int .i64 n, .int .i64 lo, .int .i64 hi] w fun e w' => e = .returned (.bool (btw n lo hi)) ∧ w = w' := by
  by_cases h : lo ≤ n
  · by_cases h2 : n ≤ hi
    · rw [btw_true.2 ⟨h, h2⟩]
      go_enter Try.func48, Try.ntmps48
      go_wp2
      go_ret
      exact ⟨rfl, rfl⟩
    · rw [btw_false (n := n) (.inr (by omega))]
      go_enter Try.func48, Try.ntmps48
      go_wp2
      go_ret
      exact ⟨rfl, rfl⟩
  · rw [btw_false (n := n) (.inl (by omega))]
    go_enter Try.func48, Try.ntmps48
    go_wp2
    go_ret
    exact ⟨rfl, rfl⟩

theorem rWithin6_s (n lo hi : Int) (w : World) :
    Calls Try.prog 48 #[.int .i64 n, .int .i64 lo, .int .i64 hi] w fun e w' => e = .returned (.bool (btw n lo hi)) ∧ w' = w := (rWithin6_any n lo hi w).mono fun e w' h => ⟨h.1, h.2.symm⟩

set_option maxRecDepth 100000 in
set_option maxHeartbeats 4000000 in
theorem rValidate6_any (a : Option Addr) (ca : Nat) (b : List Rg) (w : World) (hb : RangesAt w a b) :
    Calls Try.prog 85 #[.slice a b.length ca] w fun e w' => e = .returned (.int .i64 (vb b)) ∧ Below w.heap.size w w' := by
  by_cases h4 : b.length = 4
  · have HL := Lib.hid h4
    have HBA := Lib.hid (fun k x (hx : b[k]? = some x) h => vb_bad hx h)
    rw [h4]
    clear h4
    go_enter Try.func85, Try.ntmps85
    go_wp2_with fail
    go_loopw [3] (fun s3 wr => ∃ k : Nat, k ≤ 4 ∧ s3 = .int .i64 k ∧ (b.take k).all okG = true ∧ Below w.heap.size w wr) (fun s3 _ => 4 - (intOf s3).toNat)
    case atStart => exact ⟨0, Nat.zero_le _, rfl, by simp, Below.refl _ _⟩
    case round =>
      obtain ⟨k, hk, rfl, hall, hB⟩ := hrel
      have HA := Lib.hid hall
      clear hall
      by_cases hlt : k < 4
      · obtain ⟨g, off, x, rfl, hlb, hx, c0, c1⟩ := (hb.below hB (Nat.le_refl _)).at_ (show k < b.length by rw [HL.out]; exact hlt)
        have HX := Lib.hid hx
        have HB := Lib.hid hB
        have hs := hB.size
        have HV1 := Lib.hid (fun w => rWithin6_s x.lo (-999) 999 w)
        have HV2 := Lib.hid (fun w => rWithin6_s x.hi (-999) 999 w)
        clear hx hb hB
        cases h1 : btw x.lo (-999) 999
        · have HBad := Lib.hid (HBA.out k x HX.out (okG_no1 h1))
          rw [h1] at HV1
          clear h1
          go_wp2_with fail
          go_quiet (first | (go_at_call_of 48 (Value.int .i64 x.lo); refine Calls.quiet_of_same (HV1.out _)) | (go_at_call_of 48 (Value.int .i64 x.hi); refine Calls.quiet_of_same (HV2.out _)))
          go_wp2_with fail
          go_ret
          exact ⟨ret_int HBad.out.symm, below_dn HB.out⟩
        · cases h2 : btw x.hi (-999) 999
          · have HBad := Lib.hid (HBA.out k x HX.out (okG_no2 h2))
            rw [h1] at HV1
            rw [h2] at HV2
            clear h1 h2
            go_wp2_with fail
            go_quiet (first | (go_at_call_of 48 (Value.int .i64 x.lo); refine Calls.quiet_of_same (HV1.out _)) | (go_at_call_of 48 (Value.int .i64 x.hi); refine Calls.quiet_of_same (HV2.out _)))
            go_wp2_with fail
            go_ret
            exact ⟨ret_int HBad.out.symm, below_dn HB.out⟩
          · cases h3 : decide (x.hi < x.lo)
            · have HOk := Lib.hid (okG_yes h1 h2 h3)
              rw [h1] at HV1
              rw [h2] at HV2
              clear h1 h2
              go_wp2_with fail
              go_quiet (first | (go_at_call_of 48 (Value.int .i64 x.lo); refine Calls.quiet_of_same (HV1.out _)) | (go_at_call_of 48 (Value.int .i64 x.hi); refine Calls.quiet_of_same (HV2.out _)))
              go_wp2_with fail
              go_roundw
              case rel => exact ⟨k + 1, by omega, by go_num, all_snoc HA.out HX.out HOk.out, below_dn HB.out⟩
              case measure => simp [intOf]; omega
            · have HBad := Lib.hid (HBA.out k x HX.out (okG_no3 h3))
              rw [h1] at HV1
              rw [h2] at HV2
              clear h1 h2
              go_wp2_with fail
              go_quiet (first | (go_at_call_of 48 (Value.int .i64 x.lo); refine Calls.quiet_of_same (HV1.out _)) | (go_at_call_of 48 (Value.int .i64 x.hi); refine Calls.quiet_of_same (HV2.out _)))
              go_wp2_with fail
              go_ret
              exact ⟨ret_int HBad.out.symm, below_dn HB.out⟩
      · have : k = 4 := by omega
        subst this
        rw [show ((4 : Nat) : Int) = 4 from rfl]
        go_wp2_with fail
        go_ret
        exact ⟨ret_int (vb_all HL.out (all_whole HA.out (by rw [HL.out]; omega))).symm, hB⟩
  · rw [vb_len h4]
    have h4' : ((b.length : Int) != 4) = true := by rw [bne_iff_ne]; omega
    have h4'' : ((b.length : Int) == 4) = false := by rw [beq_eq_false_iff_ne]; omega
    clear h4 hb
    go_enter Try.func85, Try.ntmps85
    go_wp2
    go_ret
    exact ⟨rfl, Below.refl _ _⟩

theorem fe_vb_cases (a b : List Rg) : fe (vb a) (vb b) = 0 ∨ fe (vb a) (vb b) = 1 := by
  rcases vb_cases a with h | h <;> rcases vb_cases b with h2 | h2 <;> rw [h, h2] <;> simp [fe]

end Go.Proofs.Ytmpgaccpdglhkaa
