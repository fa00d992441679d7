/- The document's side of boxes: within, Validate. -/
import Derived.Test.YtmpghapfldjfeaaSpB
import Derived.Test.YtmpghapfldjfeaaSpJ
import Derived.Test.YtmpghapfldjfeaaSpE
import Derived.BigQuiet
import Derived.Deep.QuietTactic
set_option linter.unusedVariables false
set_option linter.unusedSimpArgs false
namespace Go.Proofs.Ytmpghapfldjfeaa
open Go.RowKit Tinker

set_option maxHeartbeats 400000 in
theorem rWithin6_any (n lo hi : Int) (w : World) :
    Calls Try.prog 68 #[.int .i64 n, .int .i64 lo, .int .i64 hi] w fun e w' => e = .returned (.bool (btw n lo hi)) ∧ w = w' := by
  by_cases h : lo ≤ n
  · by_cases h2 : n ≤ hi
    · rw [btw_true.2 ⟨h, h2⟩]
      go_enter Try.func68, Try.ntmps68
      go_wp2
      go_ret
      exact ⟨rfl, rfl⟩
    · rw [btw_false (n := n) (.inr (by omega))]
      go_enter Try.func68, Try.ntmps68
      go_wp2
      go_ret
      exact ⟨rfl, rfl⟩
  · rw [btw_false (n := n) (.inl (by omega))]
    go_enter Try.func68, Try.ntmps68
    go_wp2
    go_ret
    exact ⟨rfl, rfl⟩

theorem rWithin6_s (n lo hi : Int) (w : World) :
    Calls Try.prog 68 #[.int .i64 n, .int .i64 lo, .int .i64 hi] w fun e w' => e = .returned (.bool (btw n lo hi)) ∧ w' = w := (rWithin6_any n lo hi w).mono fun e w' h => ⟨h.1, h.2.symm⟩

set_option maxRecDepth 100000 in
set_option maxHeartbeats 4000000 in
theorem rValidate6_any (a : Option Addr) (ca : Nat) (b : List Rg) (w : World) (hb : RangesAt w a b) :
    Calls Try.prog 23 #[.slice a b.length ca] w fun e w' => e = .returned (.int .i64 (vb b)) ∧ Below w.heap.size w w' := by
  by_cases h4 : b.length = 4
  · have HL := Lib.hid h4
    have HBA := Lib.hid (fun k x (hx : b[k]? = some x) h => vb_bad hx h)
    rw [h4]
    clear h4
    go_enter Try.func23, Try.ntmps23
    go_wp2_with fail
    go_loopw [3] (fun s3 wr => ∃ k : Nat, k ≤ 4 ∧ s3 = .int .i64 k ∧ (b.take k).all okG = true ∧ Below w.heap.size w wr) (fun s3 _ => 4 - (intOf s3).toNat)
    case atStart => exact ⟨0, Nat.zero_le _, rfl, by simp, Below.refl _ _⟩
    case round =>
      obtain ⟨k, hk, rfl, hall, hB⟩ := hrel
      have HA := Lib.hid hall
      clear hall
      by_cases hlt : k < 4
      · obtain ⟨g, off, x, rfl, hlb, hx, c0, c1⟩ := (hb.below hB (Nat.le_refl _)).at_ (show k < b.length by rw [HL.out]; exact hlt)
        have HX := Lib.hid hx
        have HB := Lib.hid hB
        have hs := hB.size
        have HV1 := Lib.hid (fun w => rWithin6_s x.lo (-999) 999 w)
        have HV2 := Lib.hid (fun w => rWithin6_s x.hi (-999) 999 w)
        clear hx hb hB
        cases h1 : btw x.lo (-999) 999
        · have HBad := Lib.hid (HBA.out k x HX.out (okG_no1 h1))
          rw [h1] at HV1
          clear h1
          go_wp2_with fail
          go_quiet (first | (go_at_call_of 68 (Value.int .i64 x.lo); refine Calls.quiet_of_same (HV1.out _)) | (go_at_call_of 68 (Value.int .i64 x.hi); refine Calls.quiet_of_same (HV2.out _)))
          go_wp2_with fail
          go_ret
          exact ⟨ret_int HBad.out.symm, below_dn HB.out⟩
        · cases h2 : btw x.hi (-999) 999
          · have HBad := Lib.hid (HBA.out k x HX.out (okG_no2 h2))
            rw [h1] at HV1
            rw [h2] at HV2
            clear h1 h2
            go_wp2_with fail
            go_quiet (first | (go_at_call_of 68 (Value.int .i64 x.lo); refine Calls.quiet_of_same (HV1.out _)) | (go_at_call_of 68 (Value.int .i64 x.hi); refine Calls.quiet_of_same (HV2.out _)))
            go_wp2_with fail
            go_ret
            exact ⟨ret_int HBad.out.symm, below_dn HB.out⟩
          · cases h3 : decide (x.hi < x.lo)
            · have HOk := Lib.hid (okG_yes h1 h2 h3)
              rw [h1] at HV1
              rw [h2] at HV2
              clear h1 h2
              go_wp2_with fail
              go_quiet (first | (go_at_call_of 68 (Value.int .i64 x.lo); refine Calls.quiet_of_same (HV1.out _)) | (go_at_call_of 68 (Value.int .i64 x.hi); refine Calls.quiet_of_same (HV2.out _)))
              go_wp2_with fail
              go_roundw
              case rel => exact ⟨k + 1, by omega, by go_num, all_snoc HA.out HX.out HOk.out, below_dn HB.out⟩
              case measure => simp [intOf]; omega
            · have HBad := Lib.hid (HBA.out k x HX.out (okG_no3 h3))
              rw [h1] at HV1
              rw [h2] at HV2
              clear h1 h2
              go_wp2_with fail
              go_quiet (first | (go_at_call_of 68 (Value.int .i64 x.lo); refine Calls.quiet_of_same (HV1.out _)) | (go_at_call_of 68 (Value.int .i64 x.hi); refine Calls.quiet_of_same (HV2.out _)))
              go_wp2_with fail
              go_ret
              exact ⟨ret_int HBad.out.symm, below_dn HB.out⟩
      · have : k = 4 := by omega
        subst this
        rw [show ((4 : Nat) : Int) = 4 from rfl]
        go_wp2_with fail
        go_ret
        exact ⟨ret_int (vb_all HL.out (all_whole HA.out (by rw [HL.out]; omega))).symm, hB⟩
  · rw [vb_len h4]
    have h4' : ((b.length : Int) != 4) = true := by rw [bne_iff_ne]; omega
    have h4'' : ((b.length : Int) == 4) = false := by rw [beq_eq_false_iff_ne]; omega
    clear h4 hb
    go_enter Try.func23, Try.ntmps23
    go_wp2
    go_ret
    exact ⟨rfl, Below.refl _ _⟩

set_option maxRecDepth 100000 in
set_option maxHeartbeats 4000000 in
theorem rInside_any (a a2 : Option Addr) (ca c2 : Nat) (b : List Rg) (s : List Int) (w : World) (hb : RangesAt w a b) (hs : IntsAt w a2 s) (h4 : b.length = 4) (k4 : s.length = 4) :
    Calls Try.prog 64 #[.slice a 4 ca, .slice a2 4 c2] w fun e w' => e = .returned (.bool (memB b s)) ∧ Below w.heap.size w w' := by
  have HL := Lib.hid h4
  have HK := Lib.hid k4
  have HNO := Lib.hid (fun k hk h => memTo_not (b := b) (s := s) (k := k) (m := 4) hk h)
  have HSU := Lib.hid (fun k => memTo_succ (b := b) (s := s) (k := k))
  clear h4 k4
  go_enter Try.func64, Try.ntmps64
  go_wp2_with fail
  go_loopw [5] (fun s5 wr => ∃ k : Nat, k ≤ 4 ∧ s5 = .int .i64 k ∧ memTo b s k = true ∧ Below w.heap.size w wr) (fun s5 _ => 4 - (intOf s5).toNat)
  case atStart => exact ⟨0, Nat.zero_le _, rfl, rfl, Below.refl _ _⟩
  case round =>
    obtain ⟨k, hk, rfl, hall, hB⟩ := hrel
    have HA := Lib.hid hall
    clear hall
    by_cases hlt : k < 4
    · obtain ⟨g, off, x, rfl, hlb, hx, c0, c1⟩ := (hb.below hB (Nat.le_refl _)).at_ (show k < b.length by rw [HL.out]; exact hlt)
      obtain ⟨g', off', n, rfl, hlb', hn, d0⟩ := (hs.below hB (Nat.le_refl _)).at_ (show k < s.length by rw [HK.out]; exact hlt)
      have hG : inG (b.getD k rg0) (s.getD k 0) = btw n x.lo x.hi := by rw [getD_of_get hx, getD_of_get hn]; rfl
      have HG := Lib.hid hG
      have HB := Lib.hid hB
      have hs' := hB.size
      have hlt1 : decide ((k : Int) < 4) = true := decide_eq_true (by omega)
      have HV1 := Lib.hid (fun w => rWithin6_s n x.lo x.hi w)
      clear hx hn hb hs hB hG
      cases h1 : btw n x.lo x.hi
      · rw [h1] at HV1
        have HN := Lib.hid (HNO.out k hlt (by rw [HG.out]; exact h1))
        clear h1
        go_wp2_with fail
        go_quiet (first | (go_at_call 68; refine Calls.quiet_of_same (HV1.out _)))
        go_wp2_with fail
        go_ret
        exact ⟨ret_bool HN.out.symm, below_dn HB.out⟩
      · rw [h1] at HV1
        have HN := Lib.hid (show memTo b s (k + 1) = true by rw [HSU.out, HA.out, HG.out, h1]; rfl)
        clear h1
        go_wp2_with fail
        go_quiet (first | (go_at_call 68; refine Calls.quiet_of_same (HV1.out _)))
        go_wp2_with fail
        go_roundw
        case rel => exact ⟨k + 1, by omega, by go_num, HN.out, below_dn HB.out⟩
        case measure => simp [intOf]; omega
    · have : k = 4 := by omega
      subst this
      rw [show ((4 : Nat) : Int) = 4 from rfl]
      go_wp2_with fail
      go_ret
      exact ⟨ret_bool HA.out.symm, hB⟩

set_option maxRecDepth 100000 in
set_option maxHeartbeats 1000000 in
theorem rHas6_any (a a2 : Option Addr) (ca c2 : Nat) (b : List Rg) (s : List Int) (w : World) (hb : RangesAt w a b) (hs : IntsAt w a2 s) :
    Calls Try.prog 19 #[.slice a b.length ca, .slice a2 s.length c2] w fun e w' => e = .returned (.tuple #[.bool (hasA b s), .int .i64 (fe (vb b) (vs s))]) ∧ Below w.heap.size w w' := by
  have H1 := Lib.hid (fun w h => rValidate6_any a ca b w h)
  have H2 := Lib.hid (fun w h => rValidateState_any a2 c2 s w h)
  have HR := Lib.hid hb
  have HS := Lib.hid hs
  rcases vb_cases b with z1 | z1
  · rcases vs_cases s with z2 | z2
    · have h4 := (vb_ok z1).l4
      have k4 := (vs_ok z2).1
      have HI := Lib.hid (fun w hb hs => rInside_any a a2 ca c2 b s w hb hs h4 k4)
      rw [show hasA b s = memB b s by unfold hasA; rw [z1, z2]; rfl]
      rw [z1] at H1
      rw [z2] at H2
      rw [z1, z2]
      rw [h4] at H1
      rw [k4] at H2
      rw [h4, k4]
      generalize memB b s = M at *
      clear z1 z2 h4 k4 hb hs
      go_enter Try.func19, Try.ntmps19
      go_wp2_with fail
      refine (H1.out _ HR.out).mono ?_
      rintro e w1 ⟨rfl, hB⟩
      have HB1 := Lib.hid (hB)
      clear hB
      go_wp2_with fail
      refine (H2.out _ (HS.out.below HB1.out (Nat.le_refl _))).mono ?_
      rintro e w0 ⟨rfl, rfl⟩
      go_wp2_with fail
      refine (HI.out _ (HR.out.below HB1.out (Nat.le_refl _)) (HS.out.below HB1.out (Nat.le_refl _))).mono ?_
      rintro e w3 ⟨rfl, hB⟩
      have HB3 := Lib.hid (HB1.out.trans (hB.mono HB1.out.size))
      clear hB
      go_wp2_with fail
      go_ret2
      exact ⟨rfl, HB3.out⟩
    · rw [show hasA b s = false by unfold hasA; rw [z1, z2]; rfl]
      rw [z1] at H1
      rw [z2] at H2
      rw [z1, z2]
      clear z1 z2 hb hs
      go_enter Try.func19, Try.ntmps19
      go_wp2_with fail
      refine (H1.out _ HR.out).mono ?_
      rintro e w1 ⟨rfl, hB⟩
      have HB1 := Lib.hid (hB)
      clear hB
      go_wp2_with fail
      refine (H2.out _ (HS.out.below HB1.out (Nat.le_refl _))).mono ?_
      rintro e w0 ⟨rfl, rfl⟩
      go_wp2_with fail
      go_ret2
      exact ⟨rfl, HB1.out⟩
  · rw [show hasA b s = false by unfold hasA fe; rw [z1]; rfl]
    rw [z1] at H1
    rw [z1]
    clear z1 hb hs
    go_enter Try.func19, Try.ntmps19
    go_wp2_with fail
    refine (H1.out _ HR.out).mono ?_
    rintro e w1 ⟨rfl, hB⟩
    have HB1 := Lib.hid (hB)
    clear hB
    go_wp2_with fail
    go_ret2
    exact ⟨rfl, HB1.out⟩

set_option maxRecDepth 100000 in
set_option maxHeartbeats 1000000 in
theorem rTwo_any (a1 a2 : Option Addr) (c1 c2 : Nat) (a b : List Rg) (w : World) (ha : RangesAt w a1 a) (hb : RangesAt w a2 b) :
    Calls Try.prog 72 #[.slice a1 a.length c1, .slice a2 b.length c2] w fun e w' => e = .returned (.int .i64 (fe (vb a) (vb b))) ∧ Below w.heap.size w w' := by
  have H1 := Lib.hid (fun w h => rValidate6_any a1 c1 a w h)
  have H2 := Lib.hid (fun w h => rValidate6_any a2 c2 b w h)
  have HR := Lib.hid ha
  have HS := Lib.hid hb
  clear ha hb
  rcases vb_cases a with z1 | z1
  · rw [z1] at H1
    rw [z1, show fe 0 (vb b) = vb b from rfl]
    clear z1
    go_enter Try.func72, Try.ntmps72
    go_wp2_with fail
    refine (H1.out _ HR.out).mono ?_
    rintro e w1 ⟨rfl, hB⟩
    have HB1 := Lib.hid (hB)
    clear hB
    go_wp2_with fail
    refine (H2.out _ (HS.out.below HB1.out (Nat.le_refl _))).mono ?_
    rintro e w2 ⟨rfl, hB⟩
    have HB2 := Lib.hid (HB1.out.trans (hB.mono HB1.out.size))
    clear hB
    go_wp2_with fail
    go_ret
    exact ⟨rfl, HB2.out⟩
  · rw [z1] at H1
    rw [z1, show fe 1 (vb b) = 1 from rfl]
    clear z1
    go_enter Try.func72, Try.ntmps72
    go_wp2_with fail
    refine (H1.out _ HR.out).mono ?_
    rintro e w1 ⟨rfl, hB⟩
    have HB1 := Lib.hid (hB)
    clear hB
    go_wp2_with fail
    go_ret
    exact ⟨rfl, HB1.out⟩

theorem fe_vb_cases (a b : List Rg) : fe (vb a) (vb b) = 0 ∨ fe (vb a) (vb b) = 1 := by
  rcases vb_cases a with h | h <;> rcases vb_cases b with h2 | h2 <;> rw [h, h2] <;> simp [fe]

set_option maxRecDepth 100000 in
set_option maxHeartbeats 4000000 in
theorem rWithinB_any (a1 a2 : Option Addr) (c1 c2 : Nat) (a b : List Rg) (w : World) (ha : RangesAt w a1 a) (hb : RangesAt w a2 b) :
    Calls Try.prog 27 #[.slice a1 a.length c1, .slice a2 b.length c2] w fun e w' => e = .returned (.tuple #[.bool (withA a b), .int .i64 (fe (vb a) (vb b))]) ∧ Below w.heap.size w w' := by
  have HT := Lib.hid (fun w h1 h2 => rTwo_any a1 a2 c1 c2 a b w h1 h2)
  have HR := Lib.hid ha
  have HS := Lib.hid hb
  rcases fe_vb_cases a b with hz | hz
  · obtain ⟨z1, z2⟩ := fe_zero hz
    have h4 := (vb_ok z1).l4
    have k4 := (vb_ok z2).l4
    rw [show withA a b = subB a b by unfold withA; rw [hz]; rfl, hz]
    rw [hz, h4, k4] at HT
    rw [h4, k4]
    have HL := Lib.hid h4
    have HK := Lib.hid k4
    have HNO := Lib.hid (fun k hk h => subTo_not (a := a) (b := b) (k := k) (m := 4) hk h)
    have HSU := Lib.hid (fun k => subTo_succ (a := a) (b := b) (k := k))
    clear hz z1 z2 h4 k4 ha hb
    go_enter Try.func27, Try.ntmps27
    go_wp2_with fail
    refine (HT.out _ HR.out HS.out).mono ?_
    rintro e w1 ⟨rfl, hB⟩
    have HB1 := Lib.hid hB
    clear hB
    go_wp2_with fail
    go_loopw [7] (fun s7 wr => ∃ k : Nat, k ≤ 4 ∧ s7 = .int .i64 k ∧ subTo a b k = true ∧ Below w.heap.size w wr) (fun s7 _ => 4 - (intOf s7).toNat)
    case atStart => exact ⟨0, Nat.zero_le _, rfl, rfl, HB1.out⟩
    case round =>
      obtain ⟨k, hk, rfl, hall, hB⟩ := hrel
      have HA := Lib.hid hall
      clear hall
      by_cases hlt : k < 4
      · obtain ⟨g, off, x, rfl, hlb, hx, c0, c1⟩ := (HR.out.below hB (Nat.le_refl _)).at_ (show k < a.length by rw [HL.out]; exact hlt)
        obtain ⟨g', off', y, rfl, hlb', hy, d0, d1⟩ := (HS.out.below hB (Nat.le_refl _)).at_ (show k < b.length by rw [HK.out]; exact hlt)
        have hG : subG (a.getD k rg0) (b.getD k rg0) = subG x y := by rw [getD_of_get hx, getD_of_get hy]
        have HG := Lib.hid hG
        have HB := Lib.hid hB
        have hs' := hB.size
        have hlt1 : decide ((k : Int) < 4) = true := decide_eq_true (by omega)
        clear hx hy hB hG HR HS
        by_cases q1 : x.lo < y.lo
        · have e1 : decide (x.lo < y.lo) = true := decide_eq_true q1
          have HN := Lib.hid (HNO.out k hlt (by rw [HG.out]; unfold subG; rw [show decide (y.lo ≤ x.lo) = false by simp; omega]; rfl))
          clear q1
          go_wp2_with fail
          go_quiet (fail)
          go_wp2_with fail
          go_ret2
          exact ⟨by rw [show subB a b = false from HN.out]; rfl, below_dn HB.out⟩
        · have e1 : decide (x.lo < y.lo) = false := decide_eq_false q1
          by_cases q2 : y.hi < x.hi
          · have e2 : decide (y.hi < x.hi) = true := decide_eq_true q2
            have HN := Lib.hid (HNO.out k hlt (by rw [HG.out]; unfold subG; rw [show decide (x.hi ≤ y.hi) = false by simp; omega]; simp))
            clear q1 q2
            go_wp2_with fail
            go_quiet (fail)
            go_wp2_with fail
            go_ret2
            exact ⟨by rw [show subB a b = false from HN.out]; rfl, below_dn HB.out⟩
          · have e2 : decide (y.hi < x.hi) = false := decide_eq_false q2
            have HN := Lib.hid (show subTo a b (k + 1) = true by rw [HSU.out, HA.out, HG.out]; unfold subG; rw [show decide (y.lo ≤ x.lo) = true by simp; omega, show decide (x.hi ≤ y.hi) = true by simp; omega]; rfl)
            clear q1 q2
            go_wp2_with fail
            go_quiet (fail)
            go_wp2_with fail
            go_roundw
            case rel => exact ⟨k + 1, by omega, by go_num, HN.out, below_dn HB.out⟩
            case measure => simp [intOf]; omega
      · have : k = 4 := by omega
        subst this
        rw [show ((4 : Nat) : Int) = 4 from rfl]
        go_wp2_with fail
        go_ret2
        exact ⟨by rw [show subB a b = true from HA.out]; rfl, hB⟩
  · rw [show withA a b = false by unfold withA; rw [hz]; rfl, hz]
    rw [hz] at HT
    clear hz ha hb
    go_enter Try.func27, Try.ntmps27
    go_wp2_with fail
    refine (HT.out _ HR.out HS.out).mono ?_
    rintro e w1 ⟨rfl, hB⟩
    have HB1 := Lib.hid hB
    clear hB
    go_wp2_with fail
    go_ret2
    exact ⟨rfl, HB1.out⟩

set_option maxRecDepth 100000 in
set_option maxHeartbeats 4000000 in
theorem rSize6_any (a1 : Option Addr) (c1 : Nat) (b : List Rg) (w : World) (hb : RangesAt w a1 b) :
    Calls Try.prog 21 #[.slice a1 b.length c1] w fun e w' => e = .returned (.tuple #[.int .i64 (sizeA b), .int .i64 (vb b)]) ∧ Below w.heap.size w w' := by
  have H1 := Lib.hid (fun w h => rValidate6_any a1 c1 b w h)
  have HR := Lib.hid hb
  rcases vb_cases b with hz | hz
  · have hok := vb_ok hz
    have h4 := hok.l4
    rw [show sizeA b = szB b by unfold sizeA; rw [if_pos hz], hz]
    rw [hz, h4] at H1
    rw [h4]
    have HL := Lib.hid h4
    have HP := Lib.hid (fun k hk => szTo_bd hok k hk)
    have HO := Lib.hid (fun k (hk : k < 4) => okG_iff.1 (hok.at_ hk))
    have HSU := Lib.hid (fun k => (rfl : szTo b (k + 1) = szTo b k + ((b.getD k rg0).hi - (b.getD k rg0).lo)))
    clear hz hok h4 hb
    go_enter Try.func21, Try.ntmps21
    go_wp2_with fail
    refine (H1.out _ HR.out).mono ?_
    rintro e w1 ⟨rfl, hB⟩
    have HB1 := Lib.hid (hB)
    clear hB
    go_wp2_with fail
    go_loopw [5, 6] (fun s5 s6 wr => ∃ k : Nat, k ≤ 4 ∧ s6 = .int .i64 k ∧ s5 = .int .i64 (szTo b k) ∧ Below w.heap.size w wr) (fun _ s6 _ => 4 - (intOf s6).toNat)
    case atStart => exact ⟨0, Nat.zero_le _, rfl, rfl, HB1.out⟩
    case round =>
      obtain ⟨k, hk, rfl, rfl, hB⟩ := hrel
      by_cases hlt : k < 4
      · obtain ⟨g, off, x, rfl, hlb, hx, c0, c1⟩ := (HR.out.below hB (Nat.le_refl _)).at_ (show k < b.length by rw [HL.out]; exact hlt)
        obtain ⟨p1, p2⟩ := HP.out k (by omega)
        have o := HO.out k hlt
        have HN := Lib.hid (show szTo b (k + 1) = szTo b k + (x.hi - x.lo) by rw [szTo, getD_of_get hx])
        rw [getD_of_get hx] at o
        obtain ⟨⟨o1, o2⟩, ⟨o3, o4⟩, o5⟩ := o
        have HB := Lib.hid hB
        have hs' := hB.size
        have hlt1 : decide ((k : Int) < 4) = true := decide_eq_true (by omega)
        have p3 : szTo b k ≤ 10000 := by omega
        generalize szTo b k = Z at *
        clear hx hB HR p2
        go_wp2_with fail
        go_quiet (fail)
        go_wp2_with fail
        go_roundw
        case rel => exact ⟨k + 1, by omega, by go_num, by rw [HN.out], below_dn HB.out⟩
        case measure => simp [intOf]; omega
      · have : k = 4 := by omega
        subst this
        rw [show ((4 : Nat) : Int) = 4 from rfl]
        go_wp2_with fail
        go_ret2
        exact ⟨rfl, hB⟩
  · rw [show sizeA b = 0 by unfold sizeA; rw [hz]; rfl, hz]
    rw [hz] at H1
    clear hz hb
    go_enter Try.func21, Try.ntmps21
    go_wp2_with fail
    refine (H1.out _ HR.out).mono ?_
    rintro e w1 ⟨rfl, hB⟩
    have HB1 := Lib.hid (hB)
    clear hB
    go_wp2_with fail
    go_ret2
    exact ⟨rfl, HB1.out⟩

end Go.Proofs.Ytmpghapfldjfeaa
