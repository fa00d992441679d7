/- TopCodes: the walk. -/
import Derived.Test.YtmideaancmpafacTopB
import Derived.Test.YtmideaancmpafacKnownT
set_option linter.unusedVariables false
set_option linter.unusedSimpArgs false
namespace Go.Proofs.Ytmideaancmpafac
open Go.RowKit Tinker

set_option maxRecDepth 100000 in
set_option maxHeartbeats 4000000 in
theorem topCodes_walk (a : Option Addr) (ca : Nat) (ps : List L) (b : Option Addr) (cb : Nat) (s : List Int) (r : Int) (d : Option Addr) (cd : Nat) (nm : List Int) (w : World) (hp : LinesAt w a ps) (hc0 : a = none → ca = 0) (hcap : ps.length ≤ ca) (hs : IntsAt w b s) (hd0 : b = none → cb = 0) (hn : IntsAt w d nm) (he0 : d = none → cd = 0) :
    Calls Try.prog 4 #[.slice a ps.length ca, .agg #[.slice b s.length cb, .int .i64 r], .slice d nm.length cd] w fun e w' => e = .returned (.bool true) ∧ Below w.heap.size w w' := by
  clear hc0 hd0 he0
  have HL := Lib.hid (fun w => long_any a ps.length ca w)
  have hx0 : (w.alloc (.cells #[.slice b s.length cb, .int .i64 r] 39)).heap[w.heap.size]? = some (.cells #[.slice b s.length cb, .int .i64 r] 39 (0, 0)) := hp_new rfl
  go_enter Try.func4, Try.ntmps4
  go_wp2_with fail
  have L1 := (((exLines' (w := w.alloc (.cells #[.slice b s.length cb, .int .i64 r] 39)) (n := w.heap.size + 1) (by simp)).below ((Below.refl _ _).alloc (Nat.le_refl _) (.cells #[.int .i64 0, .int .i64 0, .int .i64 0, .int .i64 0] 3)) (Nat.le_refl _)).below ((Below.refl _ _).alloc (Nat.le_refl _) (.cells #[.int .i64 0] 3)) (Nat.le_refl _)).below ((Below.refl _ _).alloc (Nat.le_refl _) (.cells #[.int .i64 5] 3)) (Nat.le_refl _)
  refine (exForce _ _ _ _ _ ?_ ?_ ?_ ?_).mono ?_
  · exact L1
  · exact ((ints_lit' (by simp)).below ((Below.refl _ _).alloc (Nat.le_refl _) (.cells #[.int .i64 0] 3)) (Nat.le_refl _)).below ((Below.refl _ _).alloc (Nat.le_refl _) (.cells #[.int .i64 5] 3)) (Nat.le_refl _)
  · exact (ints_lit' (zs := [0]) (by simp)).below ((Below.refl _ _).alloc (Nat.le_refl _) (.cells #[.int .i64 5] 3)) (Nat.le_refl _)
  · exact ints_lit' (zs := [5]) (by simp)
  intro e w1 hG
  obtain ⟨a1, c1, rfl, I1, hB1⟩ := hG
  have hX : w1.heap[w.heap.size]? = some (.cells #[.slice b s.length cb, .int .i64 r] 39 (0, 0)) := hp_below (hp_alloc (hp_alloc (hp_alloc (hp_alloc hx0)))) hB1 (by simp; omega)
  have hB2 : Below w.heap.size w w1 := (((((((Below.refl _ _).alloc (Nat.le_refl _) _).alloc (by simp) _).alloc (by simp; omega) _).alloc (by simp; omega) _).alloc (by simp; omega) _)).trans (hB1.mono (by simp; omega))
  have HX := Lib.hid hX
  have HB2 := Lib.hid hB2
  clear hX hB2 hB1 L1 hx0
  go_wp2_with fail
  have I2 := I1.below ((Below.refl _ _).alloc (Nat.le_refl _) (.cells #[.int .i64 10, .int .i64 0, .int .i64 0, .int .i64 0] 3)) (Nat.le_refl _)
  refine (exSame3 _ _ _ _ ?_ ?_).mono ?_
  · exact I2
  · exact ints_lit _ [10, 0, 0, 0] _
  rintro e w2 ⟨rfl, hB3⟩
  have HXX := Lib.hid (hp_below (hp_alloc HX.out) hB3 (by have := hp_lt HX.out; simp; omega))
  have HB := Lib.hid ((HB2.out.alloc HB2.out.size _).trans (hB3.mono (by have := HB2.out.size; simp; omega)))
  clear I1 I2 hB3 HX HB2
  have x0 : w2.cell? ⟨w.heap.size, 0, none⟩ = some (.slice b s.length cb) := hp_cell HXX.out (by rfl)
  have x1 : w2.cell? ⟨w.heap.size, 1, none⟩ = some (.int .i64 r) := hp_cell HXX.out (by rfl)
  by_cases g1 : 100 < ps.length
  · rw [show decide ((100 : Int) < (ps.length : Int)) = true by simp; omega] at HL
    go_wp2_with fail
    refine (HL.out _).mono ?_
    rintro e w' ⟨rfl, rfl⟩
    go_wp2_with fail
    go_ret
    exact ⟨rfl, HB.out⟩
  rw [show decide ((100 : Int) < (ps.length : Int)) = false by simp; omega] at HL
  have m1 : ps.length ≤ 100 := by omega
  clear g1
  by_cases g2 : 100 < s.length
  · have g2' : (100 : Int) < (s.length : Int) := by omega
    go_wp2_with fail
    refine (HL.out _).mono ?_
    rintro e w' ⟨rfl, rfl⟩
    go_wp2_with fail
    go_ret
    exact ⟨rfl, HB.out⟩
  have m2 : s.length ≤ 100 := by omega
  have g2' : ¬ (100 : Int) < (s.length : Int) := by omega
  clear g2
  by_cases g3 : 100 < nm.length
  · have g3' : (100 : Int) < (nm.length : Int) := by omega
    go_wp2_with fail
    refine (HL.out _).mono ?_
    rintro e w' ⟨rfl, rfl⟩
    go_wp2_with fail
    go_ret
    exact ⟨rfl, HB.out⟩
  have m3 : nm.length ≤ 100 := by omega
  have g3' : ¬ (100 : Int) < (nm.length : Int) := by omega
  clear g3
  have hpw := hp.below HB.out (Nat.le_refl _)
  have hsw := hs.below HB.out (Nat.le_refl _)
  by_cases hz : slCode ps s r = 0
  · have hz0 := (slCode_ok hz).1
    have hv := (vr_ok hz0).1
    have hm8 := (vp_ok hv).1
    have hr := isReg_iff.1 (slCode_ok hz).2
    obtain ⟨r0, r3⟩ := hr
    have S8 := slA_len ps s r
    have D8 := doneA_len ps s
    have E4 : (runL ps s).length = 4 := by unfold runL; rw [if_pos hz0]; exact (runE_ok hz0).1
    have HSD := Lib.hid (fun i => slice_done (p := ps) (s := s) (r := r) hz (i := i))
    have C1 := Lib.hid (topSlice hz m2 a b ca cb)
    have C2 := Lib.hid (topRun hz m2 a b ca cb)
    have C3 := Lib.hid (topDone hz m2 a b ca cb)
    have C4 := Lib.hid (fun a4 k4 => topRun2 hz m2 a4 b k4 cb)
    have C5 := Lib.hid (fun a4 k4 => topSlice2 hz m2 a4 b k4 cb)
    have C6 := Lib.hid ((top_less hz).2.2.2)
    have C7 := Lib.hid (fun n h a4 k4 => topExRun (n := n) h hz0 m2 a4 b k4 cb)
    have C8 := Lib.hid (fun h => topMove (nm := nm) h hz0 m2 m3 b d cb cd)
    have C9 := Lib.hid (fun h a4 b4 k4 j4 => topRenRun (nm := nm) h hz0 a4 b4 k4 j4)
    have C10 := Lib.hid (fun h a4 k4 => topMove2 (nm := nm) h hz0 m3 a4 d k4 cd)
    have C11 := Lib.hid (fun h => topLen (nm := nm) h hz0)
    have HV := Lib.hid hv
    have HM8 := Lib.hid hm8
    have X4 : (runL (lessT ps (slA ps s r) ps.length) s).length = 4 := by unfold runL; rw [if_pos (top_less hz).1]; exact (runE_ok (top_less hz).1).1
    generalize runL (lessT ps (slA ps s r) ps.length) s = X at C4 C6 X4
    generalize doneA ps s = D at C3 D8 HSD
    generalize slA ps s r = S at C1 C4 C5 C6 S8 HSD
    generalize runL ps s = E at C2 C6 C7 C9 C10 C11 E4
    have HZ := Lib.hid hz0
    clear hz hv hm8 hz0
    have m8 : ¬ (8 : Int) < (ps.length : Int) := by have := HM8.out; omega
    go_wp2_with fail
    refine (HL.out _).mono ?_
    rintro e w' ⟨rfl, rfl⟩
    go_wp2_with fail
    refine (C1.out _ hpw hsw).mono ?_
    rintro e w3 ⟨a1, k1, rfl, hi1, hB1⟩
    have HI3 := Lib.hid hi1
    have HX3 := Lib.hid (hp_below HXX.out hB1 (hp_lt HXX.out))
    have HB3 := Lib.hid (HB.out.trans (hB1.mono HB.out.size))
    clear hi1 hB1 HXX HB hpw hsw x0 x1
    have x0 : w3.cell? ⟨w.heap.size, 0, none⟩ = some (.slice b s.length cb) := hp_cell HX3.out (by rfl)
    have x1 : w3.cell? ⟨w.heap.size, 1, none⟩ = some (.int .i64 r) := hp_cell HX3.out (by rfl)
    go_wp2_with fail
    refine (C2.out _ (hp.below HB3.out (Nat.le_refl _)) (hs.below HB3.out (Nat.le_refl _))).mono ?_
    rintro e w4 ⟨a2, k2, rfl, hi1, hB1⟩
    have HI4 := Lib.hid (HI3.out.below hB1 (Nat.le_refl _))
    have HE4 := Lib.hid hi1
    have HX4 := Lib.hid (hp_below HX3.out hB1 (hp_lt HX3.out))
    have HB4 := Lib.hid (HB3.out.trans (hB1.mono HB3.out.size))
    clear hi1 hB1 HX3 HB3 HI3 x0 x1
    have x0 : w4.cell? ⟨w.heap.size, 0, none⟩ = some (.slice b s.length cb) := hp_cell HX4.out (by rfl)
    have x1 : w4.cell? ⟨w.heap.size, 1, none⟩ = some (.int .i64 r) := hp_cell HX4.out (by rfl)
    go_wp2_with fail
    refine (C3.out _ (hp.below HB4.out (Nat.le_refl _)) (hs.below HB4.out (Nat.le_refl _))).mono ?_
    rintro e w5 ⟨a3, k3, rfl, hi1, hB1⟩
    have HI := Lib.hid (show TopI w.heap.size b s.length cb r a1 a2 a3 S E D w w5 from ⟨hp_below HX4.out hB1 (hp_lt HX4.out), HI4.out.below hB1 (Nat.le_refl _), HE4.out.below hB1 (Nat.le_refl _), hi1, HB4.out.trans (hB1.mono HB4.out.size)⟩)
    clear hi1 hB1 HX4 HB4 HI4 HE4 x0 x1 C1 C2 C3 HL
    have x0 := HI.out.c0
    have x1 := HI.out.c1
    have r0' : ¬ r < 0 := by omega
    have r4' : ¬ (4 : Int) ≤ r := by omega
    go_wp2_with fail
    go_loopw [14, 15] (fun s14 s15 wr => ∃ k a4 k4, k ≤ ps.length ∧ s14 = .slice a4 ps.length k4 ∧ s15 = .int .i64 (k : Nat) ∧ LinesAt wr a4 (lessT ps S k) ∧ TopI w.heap.size b s.length cb r a1 a2 a3 S E D w wr) (fun _ s15 _ => ps.length - (intOf s15).toNat)
    case atStart => exact ⟨0, a, ca, Nat.zero_le _, rfl, rfl, hp.below HI.out.below (Nat.le_refl _), HI.out⟩
    case round =>
      obtain ⟨k, a4, k4, hk, rfl, rfl, hl4, hI⟩ := hrel
      have HL4 := Lib.hid hl4
      have HI := Lib.hid hI
      clear hl4 hI
      by_cases hlt : k < ps.length
      · obtain ⟨lb, lo, l, rfl, hlb, hl, c0, c1, c2, c3⟩ := (hp.below HI.out.below (Nat.le_refl _)).at_ hlt
        have HLn := Lib.hid ((vp_ok HV.out).2 l (mem_of_get hl))
        have hl' := Lib.hid hl
        clear hl
        cases hh : hasB S (k : Int)
        · have HA := Lib.hid (topHas a1 k1 S k false hh)
          cases hw : Tinker.wr l
          · have HW := Lib.hid (topWrites HLn.out false hw)
            have HStay := Lib.hid (lessT_stay (S := S) hl'.out (.inl hw))
            clear hw hh
            go_wp2_with fail
            refine (HW.out _).mono ?_
            rintro e w6 ⟨rfl, hB⟩
            have HI6 := Lib.hid (HI.out.low hB)
            have HL6 := Lib.hid (HL4.out.below hB (Nat.le_refl _))
            clear HI HL4 hB c0 c1 c2 c3 x0 x1
            go_wp2_with fail
            refine (HA.out _ HI6.out.s (by omega)).mono ?_
            rintro e w' ⟨rfl, rfl⟩
            go_wp2_with fail
            go_roundw
            case rel => exact ⟨k + 1, a4, k4, by omega, rfl, by go_num, by rw [HStay.out]; exact HL6.out, HI6.out⟩
            case measure => simp [intOf]; omega
          · have HW := Lib.hid (topWrites HLn.out true hw)
            have HP := Lib.hid (topPut HV.out m1 hl'.out hw hh a4 k4)
            clear hw hh
            go_wp2_with fail
            refine (HW.out _).mono ?_
            rintro e w6 ⟨rfl, hB⟩
            have HI6 := Lib.hid (HI.out.low hB)
            have HL6 := Lib.hid (HL4.out.below hB (Nat.le_refl _))
            clear HI HL4 hB c0 c1 c2 c3 x0 x1
            go_wp2_with fail
            refine (HA.out _ HI6.out.s (by omega)).mono ?_
            rintro e w' ⟨rfl, rfl⟩
            go_wp2_with fail
            refine (HA.out _ HI6.out.s (by omega)).mono ?_
            rintro e w' ⟨rfl, rfl⟩
            go_wp2_with fail
            refine (HP.out _ HL6.out).mono ?_
            rintro e w7 ⟨a7, k7, rfl, hl7, _, hB⟩
            have HI7 := Lib.hid (HI6.out.low hB)
            have HL7 := Lib.hid hl7
            clear HI6 HL6 hB hl7
            go_wp2_with fail
            go_roundw
            case rel => exact ⟨k + 1, a7, k7, by omega, rfl, by go_num, HL7.out, HI7.out⟩
            case measure => simp [intOf]; omega
        · have HA := Lib.hid (topHas a1 k1 S k true hh)
          have HD := Lib.hid (topHas a3 k3 D k true (HSD.out k hh))
          cases hw : Tinker.wr l
          · have HW := Lib.hid (topWrites HLn.out false hw)
            have HStay := Lib.hid (lessT_stay (S := S) hl'.out (.inl hw))
            clear hw hh
            go_wp2_with fail
            refine (HW.out _).mono ?_
            rintro e w6 ⟨rfl, hB⟩
            have HI6 := Lib.hid (HI.out.low hB)
            have HL6 := Lib.hid (HL4.out.below hB (Nat.le_refl _))
            clear HI HL4 hB c0 c1 c2 c3 x0 x1
            go_wp2_with fail
            refine (HA.out _ HI6.out.s (by omega)).mono ?_
            rintro e w' ⟨rfl, rfl⟩
            go_wp2_with fail
            refine (HD.out _ HI6.out.d (by omega)).mono ?_
            rintro e w' ⟨rfl, rfl⟩
            go_wp2_with fail
            go_roundw
            case rel => exact ⟨k + 1, a4, k4, by omega, rfl, by go_num, by rw [HStay.out]; exact HL6.out, HI6.out⟩
            case measure => simp [intOf]; omega
          · have HW := Lib.hid (topWrites HLn.out true hw)
            have HStay := Lib.hid (lessT_stay (S := S) hl'.out (.inr hh))
            clear hw hh
            go_wp2_with fail
            refine (HW.out _).mono ?_
            rintro e w6 ⟨rfl, hB⟩
            have HI6 := Lib.hid (HI.out.low hB)
            have HL6 := Lib.hid (HL4.out.below hB (Nat.le_refl _))
            clear HI HL4 hB c0 c1 c2 c3 x0 x1
            go_wp2_with fail
            refine (HA.out _ HI6.out.s (by omega)).mono ?_
            rintro e w' ⟨rfl, rfl⟩
            go_wp2_with fail
            refine (HD.out _ HI6.out.d (by omega)).mono ?_
            rintro e w' ⟨rfl, rfl⟩
            go_wp2_with fail
            refine (HA.out _ HI6.out.s (by omega)).mono ?_
            rintro e w' ⟨rfl, rfl⟩
            go_wp2_with fail
            go_roundw
            case rel => exact ⟨k + 1, a4, k4, by omega, rfl, by go_num, by rw [HStay.out]; exact HL6.out, HI6.out⟩
            case measure => simp [intOf]; omega
      · have hkk : k = ps.length := by omega
        subst hkk
        clear hk hlt x0 x1
        have x0 := HI.out.c0
        have x1 := HI.out.c1
        go_wp2_with fail
        refine (C4.out _ _ _ HL4.out (hs.below HI.out.below (Nat.le_refl _))).mono ?_
        rintro e w6 ⟨a6, k6, rfl, hi6, hB⟩
        have HI6 := Lib.hid (HI.out.low hB)
        have HL6 := Lib.hid (HL4.out.below hB (Nat.le_refl _))
        have HX6 := Lib.hid hi6
        clear HI HL4 hB hi6 x0 x1
        have x0 := HI6.out.c0
        have x1 := HI6.out.c1
        go_wp2_with fail
        refine (C5.out _ _ _ HL6.out (hs.below HI6.out.below (Nat.le_refl _))).mono ?_
        rintro e w7 ⟨a7, k7, rfl, hi7, hB⟩
        have HI := Lib.hid (HI6.out.low hB)
        have HX := Lib.hid (HX6.out.below hB (Nat.le_refl _))
        have HR := Lib.hid hi7
        clear HI6 HL6 HX6 hB hi7 x0 x1 C4 C5
        have x0 := HI.out.c0
        have x1 := HI.out.c1
        obtain ⟨eb, eo, x, rfl, hlb, hx, cx⟩ := HI.out.e.at_ (show r.toNat < E.length by omega)
        obtain ⟨fb, fo, y, rfl, hlb2, hy, cy⟩ := HX.out.at_ (show r.toNat < X.length by omega)
        have heq := C6.out
        rw [getD_of_get hx, getD_of_get hy] at heq
        subst heq
        have xx : (x != x) = false := by simp
        have l1 : r < 4 := by omega
        have hd1 : decide ((4 : Int) ≤ r) = false := by simp; omega
        have hd2 : decide (r < (4 : Int)) = true := by simp; omega
        have hlw := hp_lt HI.out.bj
        clear hx hy C6
        go_wp2_with fail
        go_region_held3 (fun w' => w'.cell? ⟨w.heap.size, 1, none⟩ = some (.int .i64 r) ∧ w'.cell? ⟨eb, eo + r.toNat, none⟩ = some (.int .i64 x) ∧ w'.cell? ⟨fb, fo + r.toNat, none⟩ = some (.int .i64 x)) (first | exact ⟨x1, cx, cy⟩ | exact ⟨(hBa.cell (p := ⟨w.heap.size, _, none⟩) hlw).trans x1, (hBa.cell (p := ⟨eb, _, none⟩) hlb).trans cx, (hBa.cell (p := ⟨fb, _, none⟩) hlb2).trans cy⟩ | go_keep) ((go_at_call 13; refine (same_self S.length _ _ _ _ S _ rfl ?_ ?_ (by omega)).mono ?_; exact HR.out; exact HI.out.s; rintro e wa ⟨rfl, hBa⟩))
        have HI := Lib.hid (HI.out.drew.low hBa)
        clear hBa x0 x1 cx cy HR HX hlb hlb2 hlw xx l1 hd1 hd2 X4
        have x0 := HI.out.c0
        have x1 := HI.out.c1
        go_wp2_with fail
        go_loopw [21] (fun s21 wr => ∃ k : Nat, k ≤ ps.length ∧ s21 = .int .i64 k ∧ TopI w.heap.size b s.length cb r a1 (some ⟨eb, eo, none⟩) a3 S E D w wr) (fun s21 _ => ps.length - (intOf s21).toNat)
        case atStart => exact ⟨0, Nat.zero_le _, rfl, HI.out⟩
        case round =>
          obtain ⟨k, hk, rfl, hI⟩ := hrel
          have HI := Lib.hid hI
          clear hI x0 x1
          have x0 := HI.out.c0
          have x1 := HI.out.c1
          by_cases hlt : k + 1 < ps.length
          · have hlt' : (k : Int) + 1 < (ps.length : Int) := by omega
            by_cases hx : xcC ps k = 0
            · have D1 := Lib.hid (topEx hx m1 a ca hcap)
              have D2 := Lib.hid (C7.out k hx)
              have D3 := Lib.hid (topEx2 hx m1)
              generalize xcP ps k = Q at D1 D2 D3
              clear hx
              go_wp2_with fail
              refine (D1.out _ (hp.below HI.out.below (Nat.le_refl _))).mono ?_
              rintro e w8 ⟨a8, k8, rfl, hl8, hk8, hB⟩
              have HQ := Lib.hid hl8
              have HK8 := Lib.hid hk8
              have HI8 := Lib.hid (HI.out.low hB)
              clear hl8 hk8 hB HI x0 x1
              have x0 := HI8.out.c0
              have x1 := HI8.out.c1
              go_wp2_with fail
              refine (D2.out _ _ _ HQ.out (hs.below HI8.out.below (Nat.le_refl _))).mono ?_
              rintro e w9 ⟨a9, k9, rfl, hi9, hB⟩
              have HQ9 := Lib.hid (HQ.out.below hB (Nat.le_refl _))
              have HS9 := Lib.hid hi9
              have HI9 := Lib.hid (HI8.out.low hB)
              clear hi9 hB HI8 HQ x0 x1
              go_wp2_with fail
              refine (D3.out _ _ HK8.out _ HQ9.out).mono ?_
              rintro e w10 ⟨a10, k10, rfl, hl10, _, hB⟩
              have HG10 := Lib.hid hl10
              have HS10 := Lib.hid (HS9.out.below hB (Nat.le_refl _))
              have HI10 := Lib.hid (HI9.out.low hB)
              clear hl10 hB HI9 HQ9 HS9
              go_wp2_with fail
              refine (same_self 4 _ _ _ _ E _ E4 HS10.out HI10.out.e (by omega)).mono ?_
              rintro e w11 ⟨rfl, hB⟩
              have HG11 := Lib.hid (HG10.out.below hB (Nat.le_refl _))
              have HI11 := Lib.hid (HI10.out.low hB)
              clear hB HI10 HG10 HS10
              go_wp2_with fail
              refine (sameL_self ps.length _ _ _ _ ps _ rfl HG11.out (hp.below HI11.out.below (Nat.le_refl _)) (by omega)).mono ?_
              rintro e w12 ⟨rfl, hB⟩
              have HI12 := Lib.hid (HI11.out.low hB)
              clear hB HI11 HG11
              go_wp2_with fail
              go_roundw
              case rel => exact ⟨k + 1, by omega, by go_num, HI12.out⟩
              case measure => simp [intOf]; omega
            · have D1 := Lib.hid (topExNo hx m1 a ca hcap)
              have hx1 : (xcC ps k != 0) = true := by simpa using hx
              have hx2 : (xcC ps k == 0) = false := by simpa using hx
              generalize xcC ps k = cc at D1 hx1 hx2
              clear hx
              go_wp2_with fail
              refine (D1.out _ (hp.below HI.out.below (Nat.le_refl _))).mono ?_
              rintro e w8 ⟨a8, k8, m8', rfl, hB⟩
              have HI8 := Lib.hid (HI.out.low hB)
              clear hB HI x0 x1
              go_wp2_with fail
              go_roundw
              case rel => exact ⟨k + 1, by omega, by go_num, HI8.out⟩
              case measure => simp [intOf]; omega
          · have hlt' : ¬ (k : Int) + 1 < (ps.length : Int) := by omega
            by_cases hx : rnC ps nm = 0
            · have D1 := Lib.hid (topRen hx m1 m3 a d ca cd)
              have D2 := Lib.hid (C8.out hx)
              have D3 := Lib.hid (C9.out hx)
              have D4 := Lib.hid (C10.out hx)
              have Z4 := C11.out hx
              generalize rnP ps nm = Q at D1 D3
              generalize moP s nm = M at D2 D3
              generalize moP E nm = Z at D3 D4 Z4
              clear hx C7 C8 C9 C10 C11 HSD
              go_wp2_with fail
              refine (D1.out _ (hp.below HI.out.below (Nat.le_refl _)) (hn.below HI.out.below (Nat.le_refl _))).mono ?_
              rintro e w8 ⟨a8, k8, rfl, hl8, _, hB⟩
              have HQ8 := Lib.hid hl8
              have HI8 := Lib.hid (HI.out.low hB)
              clear hl8 hB HI x0 x1
              have x0 := HI8.out.c0
              have x1 := HI8.out.c1
              go_wp2_with fail
              refine (D2.out _ (hs.below HI8.out.below (Nat.le_refl _)) (hn.below HI8.out.below (Nat.le_refl _))).mono ?_
              rintro e w9 ⟨a9, k9, rfl, hi9, hB⟩
              have HQ9 := Lib.hid (HQ8.out.below hB (Nat.le_refl _))
              have HM9 := Lib.hid hi9
              have HI9 := Lib.hid (HI8.out.low hB)
              clear hi9 hB HI8 HQ8 x0 x1
              go_wp2_with fail
              refine (D3.out _ _ _ _ _ HQ9.out HM9.out).mono ?_
              rintro e w10 ⟨a10, k10, rfl, hi10, hB⟩
              have HZ10 := Lib.hid hi10
              have HI10 := Lib.hid (HI9.out.low hB)
              clear hi10 hB HI9 HQ9 HM9
              go_wp2_with fail
              refine (D4.out _ _ _ HI10.out.e (hn.below HI10.out.below (Nat.le_refl _))).mono ?_
              rintro e w11 ⟨a11, k11, rfl, hi11, hB⟩
              have HZ11 := Lib.hid (HZ10.out.below hB (Nat.le_refl _))
              have HY11 := Lib.hid hi11
              have HI11 := Lib.hid (HI10.out.low hB)
              clear hi11 hB HI10 HZ10
              go_wp2_with fail
              refine (same_self 4 _ _ _ _ Z _ Z4 HZ11.out HY11.out (by omega)).mono ?_
              rintro e w12 ⟨rfl, hB⟩
              have HI12 := Lib.hid (HI11.out.low hB)
              clear hB HI11 HZ11 HY11
              go_wp2_with fail
              go_ret
              exact ⟨rfl, HI12.out.below⟩
            · have D1 := Lib.hid (topRenNo hx m1 m3 a d ca cd)
              have hx1 : (rnC ps nm != 0) = true := by simpa using hx
              have hx2 : (rnC ps nm == 0) = false := by simpa using hx
              generalize rnC ps nm = cc at D1 hx1 hx2
              clear hx C7 C8 C9 C10 C11 HSD
              go_wp2_with fail
              refine (D1.out _ (hp.below HI.out.below (Nat.le_refl _)) (hn.below HI.out.below (Nat.le_refl _))).mono ?_
              rintro e w8 ⟨a8, k8, m8', rfl, hB⟩
              have HI8 := Lib.hid (HI.out.low hB)
              clear hB HI x0 x1
              go_wp2_with fail
              go_ret
              exact ⟨rfl, HI8.out.below⟩
  · have HS := Lib.hid (fun w hp hs => slice_any a b ca cb ps s r w hp hs (by omega))
    have hz1 : (slCode ps s r != 0) = true := by simpa using hz
    have hz2 : (slCode ps s r == 0) = false := by simpa using hz
    generalize slCode ps s r = cc at HS hz1 hz2
    clear hz
    go_wp2_with fail
    refine (HL.out _).mono ?_
    rintro e w' ⟨rfl, rfl⟩
    go_wp2_with fail
    refine (HS.out _ hpw hsw).mono ?_
    intro e w3 hG
    obtain ⟨a3, c3, rfl, hi3, hB3⟩ := hG.weak
    clear hG hi3
    go_wp2_with fail
    go_ret
    exact ⟨rfl, HB.out.trans (hB3.mono HB.out.size)⟩

end Go.Proofs.Ytmideaancmpafac
