/- CheckWitness: the walk. -/
import Derived.Test.YtndmjenfgggfbaaChkF
import Derived.Test.YtndmjenfgggfbaaMake
import Derived.Test.YtndmjenfgggfbaaGdB
set_option linter.unusedVariables false
set_option linter.unusedSimpArgs false
namespace Go.Proofs.Ytndmjenfgggfbaa
open Go.RowKit Tinker

set_option maxRecDepth 100000 in
set_option maxHeartbeats 2000000 in
theorem checkWitness_big (a : Option Addr) (ca : Nat) (ps : List L) (a1 b1 : Option Addr) (c1 c2 : Nat) (lo hi : List Int) (out mn mx : Int) (b : Option Addr) (cb : Nat) (s : List Int) (w : World) (hbig : 100 < ps.length ∨ (ps.length ≤ 100 ∧ (100 < lo.length ∨ 100 < hi.length)) ∨ (ps.length ≤ 100 ∧ (lo.length ≤ 100 ∧ hi.length ≤ 100) ∧ 100 < s.length)) :
    Calls Try.prog 15 #[.slice a ps.length ca, .agg #[.slice a1 lo.length c1, .slice b1 hi.length c2, .int .i64 out, .int .i64 mn, .int .i64 mx], .slice b s.length cb] w fun e w' => e = .returned (.bool true) ∧ Below w.heap.size w w' := by
  have HL := Lib.hid (fun w => long_any a ps.length ca w)
  have HW := Lib.hid (fun w => wide_any a1 b1 c1 c2 lo.length hi.length out mn mx w)
  have HM := Lib.hid (fun w => large2_any b s.length cb w)
  have HI := Lib.hid (boxC_new (a := a1) (b := b1) (n := lo.length) (m := hi.length) (ca := c1) (cb := c2) (out := out) (mn := mn) (mx := mx) w)
  have x0 := HI.out.c0
  have x1 := HI.out.c1
  have x2 := HI.out.c2
  have x3 := HI.out.c3
  have x4 := HI.out.c4
  rcases hbig with g0 | ⟨g0, g1⟩ | ⟨g0, g1, g2⟩
  · rw [show decide ((100 : Int) < (ps.length : Int)) = true by simp; omega] at HL
    go_enter Try.func15, Try.ntmps15
    go_wp2_with fail
    refine (HL.out _).mono ?_
    rintro e w' ⟨rfl, rfl⟩
    go_wp2_with fail
    refine (known2_true _).mono ?_
    rintro e wk ⟨rfl, hBk⟩
    go_wp2_with fail
    go_ret
    exact ⟨rfl, (HI.out.low hBk).below⟩
  · rw [show decide ((100 : Int) < (ps.length : Int)) = false by simp; omega] at HL
    rw [show decide (100 < lo.length ∨ 100 < hi.length) = true by simp; omega] at HW
    go_enter Try.func15, Try.ntmps15
    go_wp2_with fail
    refine (HL.out _).mono ?_
    rintro e w' ⟨rfl, rfl⟩
    go_wp2_with fail
    refine (HW.out _ ).mono ?_
    rintro e wg1 ⟨rfl, hG1⟩
    have HX1 := Lib.hid (HI.out.low hG1)
    clear hG1
    go_wp2_with fail
    refine (known2_true _).mono ?_
    rintro e wk ⟨rfl, hBk⟩
    go_wp2_with fail
    go_ret
    exact ⟨rfl, (HX1.out.low hBk).below⟩
  · rw [show decide ((100 : Int) < (ps.length : Int)) = false by simp; omega] at HL
    rw [show decide (100 < lo.length ∨ 100 < hi.length) = false by simp; omega] at HW
    rw [show decide ((100 : Int) < (s.length : Int)) = true by simp; omega] at HM
    go_enter Try.func15, Try.ntmps15
    go_wp2_with fail
    refine (HL.out _).mono ?_
    rintro e w' ⟨rfl, rfl⟩
    go_wp2_with fail
    refine (HW.out _ ).mono ?_
    rintro e wg1 ⟨rfl, hG1⟩
    have HX1 := Lib.hid (HI.out.low hG1)
    clear hG1
    go_wp2_with fail
    refine (HM.out _).mono ?_
    rintro e w' ⟨rfl, rfl⟩
    go_wp2_with fail
    refine (known2_true _).mono ?_
    rintro e wk ⟨rfl, hBk⟩
    go_wp2_with fail
    go_ret
    exact ⟨rfl, (HX1.out.low hBk).below⟩

/-- The two boxes of the law: the contract's, the test's. -/
structure WiI (C D : Nat) (a1 b1 : Option Addr) (n m c1 c2 : Nat) (out mn mx : Int) (a7 : Option Addr) (n7 k7 : Nat) (o7 want : Int) (w W : World) : Prop where
  box : BoxC C a1 b1 n m c1 c2 out mn mx w W
  tst : W.heap[D]? = some (.cells #[.slice a7 n7 k7, .int .i64 o7, .int .i64 want] 25 (0, 0))
theorem WiI.low {C D : Nat} {a1 b1 : Option Addr} {n m c1 c2 : Nat} {out mn mx : Int} {a7 : Option Addr} {n7 k7 : Nat} {o7 want : Int} {w W W' : World} (h : WiI C D a1 b1 n m c1 c2 out mn mx a7 n7 k7 o7 want w W) (hB : Below W.heap.size W W') : WiI C D a1 b1 n m c1 c2 out mn mx a7 n7 k7 o7 want w W' :=
  ⟨h.box.low hB, hp_below h.tst hB (hp_lt h.tst)⟩
theorem WiI.drewN {C D : Nat} {a1 b1 : Option Addr} {n m c1 c2 : Nat} {out mn mx : Int} {a7 : Option Addr} {n7 k7 : Nat} {o7 want : Int} {w W : World} (h : WiI C D a1 b1 n m c1 c2 out mn mx a7 n7 k7 o7 want w W) (q : Nat) : WiI C D a1 b1 n m c1 c2 out mn mx a7 n7 k7 o7 want w (W.drewN q) := ⟨h.box.drewN q, h.tst⟩
theorem inStep {p : Nat → Prop} {k : Nat} (h : ∀ j, j < k → p j) (hk : p k) : ∀ j, j < k + 1 → p j := by
  intro j hj
  rcases Nat.lt_or_ge j k with hlt | hge
  · exact h j hlt
  · obtain rfl : j = k := by omega
    exact hk
/-- A state of the box that is bad shows that the contract is not kept. -/
theorem witness {ps : List L} {lo hi s : List Int} {out mn mx : Int} (hk : kpB ps lo hi out mn mx = true) (hv : vpc ps lo hi out mn mx = 0) (hm : mkC ps s out = 0) (h4 : lo.length = s.length) (hb : ∀ j, j < s.length → lo.getD j 0 ≤ s.getD j 0 ∧ s.getD j 0 ≤ hi.getD j 0) :
    mn ≤ (mkT ps s out).want ∧ (mkT ps s out).want ≤ mx := by
  have hc := okC_of (vcon_ok (vpc_ok hv).2).1
  have h4' : s.length = 4 := by rw [← h4]; exact hc.l4
  have e : mkT ps s out = ⟨s, out, endP ps s out⟩ := by unfold mkT; rw [if_pos hm]
  rw [kpB_ok hv, fbL_ok hv] at hk
  have hn : (allS lo hi).find? (fun s => !gdP ps out mn mx s) = none := by
    cases hf : (allS lo hi).find? (fun s => !gdP ps out mn mx s) with
    | none => rfl
    | some x => rw [hf] at hk; simp at hk
  rw [List.find?_eq_none] at hn
  have hg := hn s (in_exTo lo hi 4 s ⟨h4', fun j hj => hb j (by omega)⟩)
  have hg2 : gdP ps out mn mx s = true := by simpa using hg
  rw [e]
  exact btw_true.1 hg2

set_option maxRecDepth 100000 in
set_option maxHeartbeats 4000000 in
theorem checkWitness_walk (a : Option Addr) (ca : Nat) (ps : List L) (a1 : Option Addr) (c1 : Nat) (lo : List Int) (b1 : Option Addr) (c2 : Nat) (hi : List Int) (out mn mx : Int) (b : Option Addr) (cb : Nat) (s : List Int) (w : World)
    (hp : LinesAt w a ps) (hc0 : a = none → ca = 0) (hl : IntsAt w a1 lo) (hc1 : a1 = none → c1 = 0) (hh : IntsAt w b1 hi) (hc2 : b1 = none → c2 = 0) (hs : IntsAt w b s) (hc3 : b = none → cb = 0) :
    Calls Try.prog 15 #[.slice a ps.length ca, .agg #[.slice a1 lo.length c1, .slice b1 hi.length c2, .int .i64 out, .int .i64 mn, .int .i64 mx], .slice b s.length cb] w fun e w' => e = .returned (.bool true) ∧ Below w.heap.size w w' := by
  clear hc0 hc1 hc2 hc3
  by_cases hbig : 100 < ps.length ∨ (ps.length ≤ 100 ∧ (100 < lo.length ∨ 100 < hi.length)) ∨ (ps.length ≤ 100 ∧ (lo.length ≤ 100 ∧ hi.length ≤ 100) ∧ 100 < s.length)
  · exact checkWitness_big a ca ps a1 b1 c1 c2 lo hi out mn mx b cb s w hbig
  · have g1 : ps.length ≤ 100 := by omega
    have g2 : lo.length ≤ 100 ∧ hi.length ≤ 100 := by omega
    have g3 : s.length ≤ 100 := by omega
    have HL := Lib.hid (fun w => long_any a ps.length ca w)
    have HW := Lib.hid (fun w => wide_any a1 b1 c1 c2 lo.length hi.length out mn mx w)
    have HM := Lib.hid (fun w => large2_any b s.length cb w)
    rw [show decide ((100 : Int) < (ps.length : Int)) = false by simp; omega] at HL
    rw [show decide (100 < lo.length ∨ 100 < hi.length) = false by simp; omega] at HW
    rw [show decide ((100 : Int) < (s.length : Int)) = false by simp; omega] at HM
    have C1 := Lib.hid (fun w hp hs => make_any a b ca cb ps s out w hp hs (by omega))
    have C2 := Lib.hid (fun w hp hl hh => keeps_any a a1 b1 ca c1 c2 ps lo hi out mn mx w hp hl hh (by omega) (by omega))
    have HWI := Lib.hid (fun hk hv hm h4 hb => witness (ps := ps) (lo := lo) (hi := hi) (s := s) (out := out) (mn := mn) (mx := mx) hk hv hm h4 hb)
    generalize kpB ps lo hi out mn mx = kp at C2 HWI
    generalize vpc ps lo hi out mn mx = v at C2 HWI
    generalize mkT ps s out = X at C1 HWI
    generalize mkC ps s out = c at C1 HWI
    have HP := Lib.hid hp
    have HLO := Lib.hid hl
    have HHI := Lib.hid hh
    have HS := Lib.hid hs
    have GL := Lib.hid g2
    have GS := Lib.hid g3
    clear hbig g1 g2 g3 hp hl hh hs
    have HI := Lib.hid (boxC_new (a := a1) (b := b1) (n := lo.length) (m := hi.length) (ca := c1) (cb := c2) (out := out) (mn := mn) (mx := mx) w)
    have x0 := HI.out.c0
    have x1 := HI.out.c1
    have x2 := HI.out.c2
    have x3 := HI.out.c3
    have x4 := HI.out.c4
    go_enter Try.func15, Try.ntmps15
    go_wp2_with fail
    refine (HL.out _).mono ?_
    rintro e w' ⟨rfl, rfl⟩
    go_wp2_with fail
    refine (HW.out _).mono ?_
    rintro e w1 ⟨rfl, hB⟩
    have HI1 := Lib.hid (HI.out.low hB)
    clear hB HI x0 x1 x2 x3 x4
    have x0 := HI1.out.c0
    have x1 := HI1.out.c1
    have x2 := HI1.out.c2
    have x3 := HI1.out.c3
    have x4 := HI1.out.c4
    go_wp2_with fail
    refine (HM.out _).mono ?_
    rintro e w' ⟨rfl, rfl⟩
    go_wp2_with fail
    refine (C1.out _ (HP.out.below HI1.out.below (Nat.le_refl _)) (HS.out.below HI1.out.below (Nat.le_refl _))).mono ?_
    intro e w4 hG
    obtain ⟨a7, k7, rfl, ho, hB4⟩ := hG
    have HI4 := Lib.hid (show WiI w.heap.size w4.heap.size a1 b1 lo.length hi.length c1 c2 out mn mx a7 X.inn.length k7 X.out X.want w (w4.alloc (.cells #[.slice a7 X.inn.length k7, .int .i64 X.out, .int .i64 X.want] 25)) from ⟨(HI1.out.low hB4).low ((Below.refl _ _).alloc (Nat.le_refl _) _), hp_new rfl⟩)
    clear HI1 ho hB4 x0 x1 x2 x3 x4
    have x0 := HI4.out.box.c0
    have x1 := HI4.out.box.c1
    have x2 := HI4.out.box.c2
    have x3 := HI4.out.box.c3
    have x4 := HI4.out.box.c4
    go_wp2_with fail
    refine (C2.out _ (HP.out.below HI4.out.box.below (Nat.le_refl _)) (HLO.out.below HI4.out.box.below (Nat.le_refl _)) (HHI.out.below HI4.out.box.below (Nat.le_refl _))).mono ?_
    rintro e w5 ⟨rfl, hB⟩
    have HI5 := Lib.hid (HI4.out.low hB)
    clear HI4 hB x0 x1 x2 x3 x4
    have x0 := HI5.out.box.c0
    have x1 := HI5.out.box.c1
    have x2 := HI5.out.box.c2
    have x3 := HI5.out.box.c3
    have x4 := HI5.out.box.c4
    by_cases hc : c = 0
    case neg =>
      have hc1 : (c != 0) = true := by simpa using hc
      have hc2 : (c == 0) = false := by simpa using hc
      clear hc
      go_wp2_with fail
      refine (known2_true _).mono ?_
      rintro e wk ⟨rfl, hBk⟩
      go_wp2_with fail
      go_ret
      exact ⟨rfl, (HI5.out.low hBk).box.below⟩
    have HC0 := Lib.hid hc
    subst hc
    by_cases hv : v = 0
    case neg =>
      have hc1 : (v != 0) = true := by simpa using hv
      have hc2 : (v == 0) = false := by simpa using hv
      clear hv
      go_wp2_with fail
      refine (known2_true _).mono ?_
      rintro e wk ⟨rfl, hBk⟩
      go_wp2_with fail
      go_ret
      exact ⟨rfl, (HI5.out.low hBk).box.below⟩
    have HV0 := Lib.hid hv
    subst hv
    by_cases hls : lo.length = s.length
    case neg =>
      have hc1 : ((lo.length : Int) != (s.length : Int)) = true := by rw [bne_iff_ne]; omega
      have hc2 : ((lo.length : Int) == (s.length : Int)) = false := by rw [beq_eq_false_iff_ne]; omega
      have HLS := Lib.hid hls
      clear hls
      go_wp2_with fail
      refine (known2_true _).mono ?_
      rintro e wk ⟨rfl, hBk⟩
      go_wp2_with fail
      go_ret
      exact ⟨rfl, (HI5.out.low hBk).box.below⟩
    have hc1 : ((lo.length : Int) != (s.length : Int)) = false := by rw [hls]; simp
    have hc2 : ((lo.length : Int) == (s.length : Int)) = true := by rw [hls]; simp
    have HLS := Lib.hid hls
    clear hls
    by_cases hhs : hi.length = s.length
    case neg =>
      have hd1 : ((hi.length : Int) != (s.length : Int)) = true := by rw [bne_iff_ne]; omega
      have hd2 : ((hi.length : Int) == (s.length : Int)) = false := by rw [beq_eq_false_iff_ne]; omega
      have HHS := Lib.hid hhs
      clear hhs
      go_wp2_with fail
      refine (known2_true _).mono ?_
      rintro e wk ⟨rfl, hBk⟩
      go_wp2_with fail
      go_ret
      exact ⟨rfl, (HI5.out.low hBk).box.below⟩
    have hd1 : ((hi.length : Int) != (s.length : Int)) = false := by rw [hhs]; simp
    have hd2 : ((hi.length : Int) == (s.length : Int)) = true := by rw [hhs]; simp
    have HHS := Lib.hid hhs
    clear hhs
    go_wp2_with fail
    go_loopw [11] (fun s11 wr => ∃ k : Nat, k ≤ s.length ∧ s11 = .int .i64 k ∧ (∀ j, j < k → lo.getD j 0 ≤ s.getD j 0 ∧ s.getD j 0 ≤ hi.getD j 0) ∧ WiI w.heap.size w4.heap.size a1 b1 lo.length hi.length c1 c2 out mn mx a7 X.inn.length k7 X.out X.want w wr) (fun s11 _ => s.length - (intOf s11).toNat)
    case atStart => exact ⟨0, Nat.zero_le _, rfl, fun j hj => absurd hj (Nat.not_lt_zero _), HI5.out⟩
    case round =>
      clear HI5 x0 x1 x2 x3 x4
      have g3 := GS.out
      obtain ⟨k, hk, rfl, hin, hI⟩ := hrel
      have HIN := Lib.hid hin
      have HI := Lib.hid hI
      clear hin hI
      have x0 := HI.out.box.c0
      have x1 := HI.out.box.c1
      have x2 := HI.out.box.c2
      have x3 := HI.out.box.c3
      have x4 := HI.out.box.c4
      have y2 := hp_cell HI.out.tst (j := 2) (by rfl)
      by_cases hlt : k < s.length
      · obtain ⟨lb, lf, x, ea, hlb, hx, cx⟩ := (HLO.out.below HI.out.box.below (Nat.le_refl _)).at_ (show k < lo.length by rw [HLS.out]; exact hlt)
        obtain ⟨hb, hf, y, eb, hhb, hy, cy⟩ := (HHI.out.below HI.out.box.below (Nat.le_refl _)).at_ (show k < hi.length by rw [HHS.out]; exact hlt)
        obtain ⟨sb, sf, z, ec, hsb, hz, cz⟩ := (HS.out.below HI.out.box.below (Nat.le_refl _)).at_ hlt
        subst ea eb ec
        have hkl : k < lo.length := by rw [HLS.out]; exact hlt
        have hkh : k < hi.length := by rw [HHS.out]; exact hlt
        have HX := Lib.hid (show lo.getD k 0 = x from getD_of_get hx)
        have HY := Lib.hid (show hi.getD k 0 = y from getD_of_get hy)
        have HZ := Lib.hid (show s.getD k 0 = z from getD_of_get hz)
        clear hx hy hz
        by_cases h1 : z < x
        · have h1' : decide (z < x) = true := by simpa using h1
          go_wp2_with fail
          go_quiet (fail)
          go_wp2_with fail
          refine (known2_true _).mono ?_
          rintro e wk ⟨rfl, hBk⟩
          go_wp2_with fail
          go_ret
          exact ⟨rfl, ((HI.out.drewN _).low hBk).box.below⟩
        · have h1' : decide (z < x) = false := by simpa using h1
          by_cases h2 : y < z
          · have h2' : decide (y < z) = true := by simpa using h2
            go_wp2_with fail
            go_quiet (fail)
            go_wp2_with fail
            refine (known2_true _).mono ?_
            rintro e wk ⟨rfl, hBk⟩
            go_wp2_with fail
            go_ret
            exact ⟨rfl, ((HI.out.drewN _).low hBk).box.below⟩
          · have h2' : decide (y < z) = false := by simpa using h2
            have HJ := Lib.hid (show lo.getD k 0 ≤ s.getD k 0 ∧ s.getD k 0 ≤ hi.getD k 0 by rw [HX.out, HY.out, HZ.out]; omega)
            clear h1 h2
            go_wp2_with fail
            go_quiet (fail)
            go_wp2_with fail
            go_roundw
            case rel => exact ⟨k + 1, by omega, by go_num, inStep HIN.out HJ.out, HI.out.drewN _⟩
            case measure => simp [intOf]; omega
      · obtain rfl : k = s.length := by omega
        clear hlt hk
        cases kp
        · go_wp2_with fail
          refine (known2_true _).mono ?_
          rintro e wk ⟨rfl, hBk⟩
          go_wp2_with fail
          go_ret
          exact ⟨rfl, (HI.out.low hBk).box.below⟩
        · have hmm := HWI.out rfl HV0.out HC0.out HLS.out HIN.out
          have hm1 : mn ≤ X.want := hmm.1
          have hm2 : X.want ≤ mx := hmm.2
          clear hmm
          go_wp2_with fail
          refine (known2_true _).mono ?_
          rintro e wk ⟨rfl, hBk⟩
          go_wp2_with fail
          go_ret
          exact ⟨rfl, (HI.out.low hBk).box.below⟩

end Go.Proofs.Ytndmjenfgggfbaa
