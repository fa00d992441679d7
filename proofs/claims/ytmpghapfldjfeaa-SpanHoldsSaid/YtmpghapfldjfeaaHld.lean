/- SpanHolds: the walk. -/
import Derived.Test.YtmpghapfldjfeaaSpM
import Derived.Test.YtmpghapfldjfeaaSpN
import Derived.Test.YtmpghapfldjfeaaStps
import Derived.Test.YtmpghapfldjfeaaSrA
set_option linter.unusedVariables false
set_option linter.unusedSimpArgs false
namespace Go.Proofs.Ytmpghapfldjfeaa
open Go.RowKit Tinker

set_option maxRecDepth 100000 in
set_option maxHeartbeats 8000000 in
theorem spanHolds_walk (g : Option Addr) (cg : Nat) (ps : List L) (a2 : Option Addr) (c2 : Nat) (b : List Rg) (a3 : Option Addr) (c3 : Nat) (s : List Int) (w : World) (hp : LinesAt w g ps) (hcg : g = none → cg = 0) (hb : RangesAt w a2 b) (hc : a2 = none → c2 = 0) (hs : IntsAt w a3 s) (hd : a3 = none → c3 = 0) :
    Calls Try.prog 10 #[.slice g ps.length cg, .slice a2 b.length c2, .slice a3 s.length c3] w fun e w' => e = .returned (.bool true) ∧ Below w.heap.size w w' := by
  clear hcg hc hd
  by_cases h1 : 100 < ps.length
  · have e1 : decide ((100 : Int) < (ps.length : Int)) = true := decide_eq_true (by omega)
    have HL := Lib.hid (fun w => long_any g ps.length cg w)
    rw [e1] at HL
    clear h1 e1 hp hb hs
    go_enter Try.func10, Try.ntmps10
    go_wp2_with fail
    refine (HL.out _).mono ?_
    rintro e w0 ⟨rfl, rfl⟩
    go_wp2_with fail
    refine (known6_true _ ).mono ?_
    rintro e w1 ⟨rfl, hB⟩
    have HB := Lib.hid hB
    clear hB
    go_wp2_with fail
    go_ret
    exact ⟨rfl, HB.out⟩
  · have e1 : decide ((100 : Int) < (ps.length : Int)) = false := decide_eq_false (by omega)
    have HL := Lib.hid (fun w => long_any g ps.length cg w)
    rw [e1] at HL
    by_cases h2 : 100 < b.length
    · have e2 : decide ((100 : Int) < (b.length : Int)) = true := decide_eq_true (by omega)
      have HG1 := Lib.hid (fun w => long6_any a2 b.length c2 w)
      rw [e2] at HG1
      clear h1 e1 h2 e2 hp hb hs
      go_enter Try.func10, Try.ntmps10
      go_wp2_with fail
      refine (HL.out _).mono ?_
      rintro e w0 ⟨rfl, rfl⟩
      go_wp2_with fail
      refine (HG1.out _).mono ?_
      rintro e w0 ⟨rfl, rfl⟩
      go_wp2_with fail
      refine (known6_true _ ).mono ?_
      rintro e w1 ⟨rfl, hB⟩
      have HB := Lib.hid hB
      clear hB
      go_wp2_with fail
      go_ret
      exact ⟨rfl, HB.out⟩
    · have e2 : decide ((100 : Int) < (b.length : Int)) = false := decide_eq_false (by omega)
      have HG1 := Lib.hid (fun w => long6_any a2 b.length c2 w)
      rw [e2] at HG1
      by_cases h3 : 100 < s.length
      · have e3 : decide ((100 : Int) < (s.length : Int)) = true := decide_eq_true (by omega)
        have HG2 := Lib.hid (fun w => large6_any a3 s.length c3 w)
        rw [e3] at HG2
        clear h1 e1 h2 e2 h3 e3 hp hb hs
        go_enter Try.func10, Try.ntmps10
        go_wp2_with fail
        refine (HL.out _).mono ?_
        rintro e w0 ⟨rfl, rfl⟩
        go_wp2_with fail
        refine (HG1.out _).mono ?_
        rintro e w0 ⟨rfl, rfl⟩
        go_wp2_with fail
        refine (HG2.out _).mono ?_
        rintro e w0 ⟨rfl, rfl⟩
        go_wp2_with fail
        refine (known6_true _ ).mono ?_
        rintro e w1 ⟨rfl, hB⟩
        have HB := Lib.hid hB
        clear hB
        go_wp2_with fail
        go_ret
        exact ⟨rfl, HB.out⟩
      · have e3 : decide ((100 : Int) < (s.length : Int)) = false := decide_eq_false (by omega)
        have HG2 := Lib.hid (fun w => large6_any a3 s.length c3 w)
        rw [e3] at HG2
        have C1 := Lib.hid (fun w h1 h2 => sHas_any a2 a3 c2 c3 b s w h1 h2 (by omega))
        have C2 := Lib.hid (fun w h1 h2 => done_any g a3 cg c3 ps s w h1 h2 (by omega))
        have C3 := Lib.hid (fun w h1 h2 => run_any g a3 cg c3 ps s w h1 h2 (by omega))
        have C4 := Lib.hid (fun w h1 h2 => sAfter_any g a2 cg c2 ps b w h1 h2)
        have HP := Lib.hid hp
        have HA := Lib.hid hb
        have HS := Lib.hid hs
        by_cases hz : fe (vb b) (vs s) = 0 ∧ vr ps s = 0 ∧ hasA b s = true
        · obtain ⟨z1, z2, z3⟩ := hz
          obtain ⟨vbz, vsz⟩ := fe_zero z1
          obtain ⟨vpz, _⟩ := vr_ok z2
          have hv := (vp_ok vpz).2
          have h8 := (vp_ok vpz).1
          have hbo := vb_ok vbz
          have hso := vs_ok vsz
          have hmem : memB b s = true := by unfold hasA at z3; rw [if_pos z1] at z3; exact z3
          have z4 : fe (vp ps) (vb b) = 0 := by rw [vpz, vbz]; rfl
          obtain ⟨hin, hend⟩ := in_end hv hbo hso hmem
          have HIN := Lib.hid (fun q (hq : q ∈ runS ps s) => hin q hq)
          have hend : memB (endB ps b) (runE ps s) = true := hend
          have hEo := end_ok hv hbo
          have hRo := runE_ok z2
          have qd : doneA ps s = linesOf (runS ps s) := by unfold doneA; rw [if_pos z2]; exact plc_done runS_asc fun x hx => by have := runS_lt x hx; omega
          have qr : runL ps s = runE ps s := by unfold runL; rw [if_pos z2]
          have qa : afA ps b = endB ps b := by unfold afA; rw [if_pos z4]
          have C5 := Lib.hid (fun n w h1 h2 => before_any g a3 cg c3 ps s n w h1 h2 (by omega) (by omega))
          have C6 := Lib.hid (fun n w h1 h2 => sBefore_any g a2 cg c2 ps b n w h1 h2 (by omega))
          have C7 := Lib.hid (fun x y k1 k2 m u w h1 h2 h3 => sHas_any x y k1 k2 m u w h1 h2 h3)
          have C8 := Lib.hid (fun x y k1 k2 w h1 h2 => sHas_any x y k1 k2 (endB ps b) (runE ps s) w h1 h2 (by rw [hRo.1]; omega))
          have hE1 : hasA (endB ps b) (runE ps s) = true := by unfold hasA; rw [vb_ok' hEo, vs_ok' hRo.1 hRo.2]; exact hend
          rw [hE1, vb_ok' hEo, vs_ok' hRo.1 hRo.2, hEo.l4, hRo.1] at C8
          have HBA := Lib.hid (fun (k a : Nat) (u : List Int) (hx : (runS ps s)[k]? = some (a, u)) => show befC ps s (a : Int) = 0 ∧ befO ps s (a : Int) = some u by
            have h1 : befC ps s (a : Int) = 0 := by unfold befC; rw [if_pos z2, if_pos (btw_true.2 (by have := runS_lt _ (mem_of_get hx); simp at this; omega))]
            refine ⟨h1, ?_⟩
            unfold befO; rw [if_pos h1, Int.toNat_natCast]; exact bef_step runS_asc hx)
          have HSB := Lib.hid (fun (k a : Nat) (u : List Int) (hx : (runS ps s)[k]? = some (a, u)) => show ∃ y, bfC ps b (a : Int) = 0 ∧ bfX ps b (a : Int) = some y ∧ y.length = 4 ∧ u.length = 4 ∧ hasA y u = true ∧ vb y = 0 ∧ vs u = 0 by
            obtain ⟨y, hy, hm, hl⟩ := HIN.out _ (mem_of_get hx)
            have hyo := okSt_at hv hbo ps.length _ y hy
            have huo := runS_ok z2 _ (mem_of_get hx)
            have h1 : bfC ps b (a : Int) = 0 := by unfold bfC; rw [if_pos z4, if_pos (btw_true.2 (by simp at hl; omega))]
            refine ⟨y, h1, ?_, hyo.l4, huo.1, ?_, vb_ok' hyo, vs_ok' huo.1 huo.2⟩
            · unfold bfX; rw [if_pos h1, Int.toNat_natCast]; exact hy
            · unfold hasA; rw [vb_ok' hyo, vs_ok' huo.1 huo.2]; exact hm)
          have hLn := linesOf_len (runS ps s)
          have hst8 : (runS ps s).length ≤ 8 := by have := runS_len (ps := ps) (s := s); omega
          have hlen := runS_len (ps := ps) (s := s)
          have HGT := Lib.hid (fun (k a : Nat) (u : List Int) (hx : (runS ps s)[k]? = some (a, u)) => linesOf_get hx)
          have l1 := hEo.l4
          have l2 := hRo.1
          rw [z3, z1] at C1
          rw [z2] at C2 C3
          rw [z4, qa] at C4
          rw [qd] at C2
          rw [qr] at C3
          unfold GivesIntsE at C2 C3
          unfold GivesRgE at C4
          rw [hLn] at C2
          rw [l2] at C3
          rw [l1] at C4
          generalize endB ps b = EB at *
          generalize runE ps s = RE at *
          generalize runS ps s = st at *
          generalize linesOf st = LO at *
          have HLL := Lib.hid hLn
          clear z1 z2 z3 z4 vbz vsz vpz hv h8 hbo hso hmem hin hend HIN hEo hRo qd qr qa hE1 hLn l1 l2 e1 e2 e3 h1 h2 h3 hp hb hs
          have g1 : ¬ (ps.length : Int) < (st.length : Int) := by omega
          have g2 : decide (ps.length < st.length) = false := decide_eq_false (by omega)
          have g3 : decide ((ps.length : Int) < (st.length : Int)) = false := decide_eq_false g1
          go_enter Try.func10, Try.ntmps10
          go_wp2_with fail
          refine (HL.out _).mono ?_
          rintro e w0 ⟨rfl, rfl⟩
          go_wp2_with fail
          refine (HG1.out _).mono ?_
          rintro e w0 ⟨rfl, rfl⟩
          go_wp2_with fail
          refine (HG2.out _).mono ?_
          rintro e w0 ⟨rfl, rfl⟩
          go_wp2_with fail
          refine (C1.out _ HA.out HS.out).mono ?_
          rintro e w1 ⟨rfl, hB⟩
          have HB := Lib.hid hB
          clear hB
          go_wp2_with fail
          refine (C2.out _ (HP.out.below HB.out (Nat.le_refl _)) (HS.out.below HB.out (Nat.le_refl _))).mono ?_
          rintro e w2 ⟨x1, k1, rfl, ho, hB⟩
          have HB := Lib.hid (HB.out.trans (hB.mono HB.out.size))
          have R1 := Lib.hid ((ints_of_own ho).1)
          clear hB ho
          go_wp2_with fail
          refine (C3.out _ (HP.out.below HB.out (Nat.le_refl _)) (HS.out.below HB.out (Nat.le_refl _))).mono ?_
          rintro e w3 ⟨x2, k2, rfl, ho, hB⟩
          have R1 := Lib.hid (R1.out.below hB (Nat.le_refl _))
          have HB := Lib.hid (HB.out.trans (hB.mono HB.out.size))
          have R2 := Lib.hid ((ints_of_own ho).1)
          clear hB ho
          go_wp2_with fail
          refine (C4.out _ (HP.out.below HB.out (Nat.le_refl _)) (HA.out.below HB.out (Nat.le_refl _))).mono ?_
          rintro e w4 ⟨x3, k3, rfl, ho, hB⟩
          have R1 := Lib.hid (R1.out.below hB (Nat.le_refl _))
          have R2 := Lib.hid (R2.out.below hB (Nat.le_refl _))
          have HB := Lib.hid (HB.out.trans (hB.mono HB.out.size))
          have R3 := Lib.hid ((ranges_of_own ho).1)
          clear hB ho
          go_wp2_with fail
          have HW := Lib.hid HB.out
          go_loopw [15] (fun s15 wr => ∃ k : Nat, k ≤ st.length ∧ s15 = .int .i64 k ∧ Below w4.heap.size w4 wr) (fun s15 _ => st.length - (intOf s15).toNat)
          case atStart => exact ⟨0, Nat.zero_le _, rfl, Below.refl _ _⟩
          case round =>
            obtain ⟨k, hk, rfl, hBr⟩ := hrel
            have HB := Lib.hid (HB.out.trans (hBr.mono HB.out.size))
            have R1 := Lib.hid (R1.out.below hBr (Nat.le_refl _))
            have R2 := Lib.hid (R2.out.below hBr (Nat.le_refl _))
            have R3 := Lib.hid (R3.out.below hBr (Nat.le_refl _))
            have HBR := Lib.hid hBr
            clear hBr
            by_cases hlt : k < st.length
            · obtain ⟨⟨i, u⟩, hx⟩ := get_of_lt hlt
              obtain ⟨gd, od, m, rfl, hlg, hm, d0⟩ := R1.out.at_ (show k < LO.length by rw [HLL.out]; exact hlt)
              rw [HGT.out k i u hx] at hm
              injection hm with hm
              subst hm
              obtain ⟨q1, q2⟩ := HBA.out k i u hx
              obtain ⟨y, p1, p2, p3, p4, p5, p6, p7⟩ := HSB.out k i u hx
              have D5 := Lib.hid (C5.out (i : Int))
              have D6 := Lib.hid (C6.out (i : Int))
              rw [q1, q2] at D5
              rw [p1, p2] at D6
              have D7 := Lib.hid (fun x z k1 k2 w h1 h2 => C7.out x z k1 k2 y u w h1 h2 (by rw [p4]; omega))
              rw [p5, p6, p7, p3, p4] at D7
              replace D5 : Hid (∀ w, LinesAt w g ps → IntsAt w a3 s → Calls Try.prog 49 _ w fun e w' => ∃ a cap, e = .returned (.tuple #[.slice a u.length cap, .bool true, .int .i64 0]) ∧ IntsAt w' a u ∧ Below w.heap.size w w') := D5
              replace D6 : Hid (∀ w, LinesAt w g ps → RangesAt w a2 b → Calls Try.prog 41 _ w fun e w' => ∃ a cap, e = .returned (.tuple #[.slice a y.length cap, .bool true, .int .i64 0]) ∧ w'.ownsRow w.heap.size 39 2 (.slice a y.length cap) y.length (gc y) ∧ Below w.heap.size w w') := D6
              rw [p4] at D5
              rw [p3] at D6
              clear hx q1 q2 p1 p2 p3 p4 p5 p6 p7
              go_wp2_with fail
              refine (D5.out _ (HP.out.below HB.out (Nat.le_refl _)) (HS.out.below HB.out (Nat.le_refl _))).mono ?_
              rintro e w5 ⟨x5, k5, rfl, hi5, hB⟩
              have d0 := (hB.cell (p := ⟨gd, _, none⟩) hlg).trans d0
              have HB5 := Lib.hid hB
              have I5 := Lib.hid hi5
              clear hB hi5
              go_wp2_with fail
              refine (D6.out _ ((HP.out.below HB.out (Nat.le_refl _)).below HB5.out (Nat.le_refl _)) ((HA.out.below HB.out (Nat.le_refl _)).below HB5.out (Nat.le_refl _))).mono ?_
              rintro e w6 ⟨x6, k6, rfl, ho, hB⟩
              have HB6 := Lib.hid (HB5.out.trans (hB.mono HB5.out.size))
              have I5 := Lib.hid (I5.out.below hB (Nat.le_refl _))
              have I6 := Lib.hid (ranges_of_own ho).1
              clear hB ho d0
              go_wp2_with fail
              refine (D7.out _ _ _ _ _ I6.out I5.out).mono ?_
              rintro e w7 ⟨rfl, hB⟩
              have HB7 := Lib.hid (HB6.out.trans (hB.mono HB6.out.size))
              clear hB
              have hz0 : fe 0 0 = 0 := rfl
              rw [hz0]
              go_wp2_with fail
              go_roundw
              case rel => exact ⟨k + 1, by omega, by go_num, HBR.out.trans (HB7.out.mono HBR.out.size)⟩
              case measure => simp [intOf]; omega
            · have : k = st.length := by omega
              subst this
              go_wp2_with fail
              refine (C8.out _ _ _ _ _ R3.out R2.out).mono ?_
              rintro e w8 ⟨rfl, hB⟩
              have HB := Lib.hid (HB.out.trans (hB.mono HB.out.size))
              clear hB
              have hz0 : fe 0 0 = 0 := rfl
              rw [hz0]
              go_wp2_with fail
              refine (known6_true _).mono ?_
              rintro e w9 ⟨rfl, hB⟩
              have HB := Lib.hid (HB.out.trans (hB.mono HB.out.size))
              clear hB
              go_wp2_with fail
              go_ret
              exact ⟨rfl, HB.out⟩
        · rcases Bool.eq_false_or_eq_true (fe (vb b) (vs s) != 0) with n1 | n1
          · have n1' : (fe (vb b) (vs s) == 0) = false := by simpa using n1
            generalize fe (vb b) (vs s) = E1 at *
            generalize vr ps s = E2 at *
            generalize hasA b s = M at *
            generalize fe (vp ps) (vb b) = E3 at *
            clear hz e1 e2 e3 h1 h2 h3 hp hb hs
            go_enter Try.func10, Try.ntmps10
            go_wp2_with fail
            refine (HL.out _).mono ?_
            rintro e w0 ⟨rfl, rfl⟩
            go_wp2_with fail
            refine (HG1.out _).mono ?_
            rintro e w0 ⟨rfl, rfl⟩
            go_wp2_with fail
            refine (HG2.out _).mono ?_
            rintro e w0 ⟨rfl, rfl⟩
            go_wp2_with fail
            refine (C1.out _ HA.out HS.out).mono ?_
            rintro e w1 ⟨rfl, hB⟩
            have HB := Lib.hid hB
            clear hB
            go_wp2_with fail
            refine (C2.out _ (HP.out.below HB.out (Nat.le_refl _)) (HS.out.below HB.out (Nat.le_refl _))).mono ?_
            rintro e w2 ⟨x1, k1, rfl, ho, hB⟩
            have HB := Lib.hid (HB.out.trans (hB.mono HB.out.size))
            have R1 := Lib.hid ((ints_of_own ho).1)
            clear hB ho
            go_wp2_with fail
            refine (C3.out _ (HP.out.below HB.out (Nat.le_refl _)) (HS.out.below HB.out (Nat.le_refl _))).mono ?_
            rintro e w3 ⟨x2, k2, rfl, ho, hB⟩
            have R1 := Lib.hid (R1.out.below hB (Nat.le_refl _))
            have HB := Lib.hid (HB.out.trans (hB.mono HB.out.size))
            have R2 := Lib.hid ((ints_of_own ho).1)
            clear hB ho
            go_wp2_with fail
            refine (C4.out _ (HP.out.below HB.out (Nat.le_refl _)) (HA.out.below HB.out (Nat.le_refl _))).mono ?_
            rintro e w4 ⟨x3, k3, rfl, ho, hB⟩
            have R1 := Lib.hid (R1.out.below hB (Nat.le_refl _))
            have R2 := Lib.hid (R2.out.below hB (Nat.le_refl _))
            have HB := Lib.hid (HB.out.trans (hB.mono HB.out.size))
            have R3 := Lib.hid ((ranges_of_own ho).1)
            clear hB ho
            go_wp2_with fail
            refine (known6_true _ ).mono ?_
            rintro e w5 ⟨rfl, hB⟩
            have R1 := Lib.hid (R1.out.below hB (Nat.le_refl _))
            have R2 := Lib.hid (R2.out.below hB (Nat.le_refl _))
            have R3 := Lib.hid (R3.out.below hB (Nat.le_refl _))
            have HB := Lib.hid (HB.out.trans (hB.mono HB.out.size))
            clear hB
            go_wp2_with fail
            go_ret
            exact ⟨rfl, HB.out⟩
          · have m1 : fe (vb b) (vs s) = 0 := by simpa using n1
            rcases Bool.eq_false_or_eq_true (vr ps s != 0) with n2 | n2
            · have n2' : (vr ps s == 0) = false := by simpa using n2
              rw [m1] at C1
              clear m1 n1
              generalize vr ps s = E2 at *
              generalize hasA b s = M at *
              generalize fe (vp ps) (vb b) = E3 at *
              clear hz e1 e2 e3 h1 h2 h3 hp hb hs
              go_enter Try.func10, Try.ntmps10
              go_wp2_with fail
              refine (HL.out _).mono ?_
              rintro e w0 ⟨rfl, rfl⟩
              go_wp2_with fail
              refine (HG1.out _).mono ?_
              rintro e w0 ⟨rfl, rfl⟩
              go_wp2_with fail
              refine (HG2.out _).mono ?_
              rintro e w0 ⟨rfl, rfl⟩
              go_wp2_with fail
              refine (C1.out _ HA.out HS.out).mono ?_
              rintro e w1 ⟨rfl, hB⟩
              have HB := Lib.hid hB
              clear hB
              go_wp2_with fail
              refine (C2.out _ (HP.out.below HB.out (Nat.le_refl _)) (HS.out.below HB.out (Nat.le_refl _))).mono ?_
              rintro e w2 ⟨x1, k1, rfl, ho, hB⟩
              have HB := Lib.hid (HB.out.trans (hB.mono HB.out.size))
              have R1 := Lib.hid ((ints_of_own ho).1)
              clear hB ho
              go_wp2_with fail
              refine (C3.out _ (HP.out.below HB.out (Nat.le_refl _)) (HS.out.below HB.out (Nat.le_refl _))).mono ?_
              rintro e w3 ⟨x2, k2, rfl, ho, hB⟩
              have R1 := Lib.hid (R1.out.below hB (Nat.le_refl _))
              have HB := Lib.hid (HB.out.trans (hB.mono HB.out.size))
              have R2 := Lib.hid ((ints_of_own ho).1)
              clear hB ho
              go_wp2_with fail
              refine (C4.out _ (HP.out.below HB.out (Nat.le_refl _)) (HA.out.below HB.out (Nat.le_refl _))).mono ?_
              rintro e w4 ⟨x3, k3, rfl, ho, hB⟩
              have R1 := Lib.hid (R1.out.below hB (Nat.le_refl _))
              have R2 := Lib.hid (R2.out.below hB (Nat.le_refl _))
              have HB := Lib.hid (HB.out.trans (hB.mono HB.out.size))
              have R3 := Lib.hid ((ranges_of_own ho).1)
              clear hB ho
              go_wp2_with fail
              refine (known6_true _ ).mono ?_
              rintro e w5 ⟨rfl, hB⟩
              have R1 := Lib.hid (R1.out.below hB (Nat.le_refl _))
              have R2 := Lib.hid (R2.out.below hB (Nat.le_refl _))
              have R3 := Lib.hid (R3.out.below hB (Nat.le_refl _))
              have HB := Lib.hid (HB.out.trans (hB.mono HB.out.size))
              clear hB
              go_wp2_with fail
              go_ret
              exact ⟨rfl, HB.out⟩
            · have m2 : vr ps s = 0 := by simpa using n2
              have m4 : hasA b s = false := by
                cases hw : hasA b s
                · rfl
                · exact absurd ⟨m1, m2, hw⟩ hz
              rw [m1, m4] at C1
              rw [m2] at C2 C3
              generalize fe (vp ps) (vb b) = E3 at *
              clear hz m1 m2 m4 n1 n2 e1 e2 e3 h1 h2 h3 hp hb hs
              go_enter Try.func10, Try.ntmps10
              go_wp2_with fail
              refine (HL.out _).mono ?_
              rintro e w0 ⟨rfl, rfl⟩
              go_wp2_with fail
              refine (HG1.out _).mono ?_
              rintro e w0 ⟨rfl, rfl⟩
              go_wp2_with fail
              refine (HG2.out _).mono ?_
              rintro e w0 ⟨rfl, rfl⟩
              go_wp2_with fail
              refine (C1.out _ HA.out HS.out).mono ?_
              rintro e w1 ⟨rfl, hB⟩
              have HB := Lib.hid hB
              clear hB
              go_wp2_with fail
              refine (C2.out _ (HP.out.below HB.out (Nat.le_refl _)) (HS.out.below HB.out (Nat.le_refl _))).mono ?_
              rintro e w2 ⟨x1, k1, rfl, ho, hB⟩
              have HB := Lib.hid (HB.out.trans (hB.mono HB.out.size))
              have R1 := Lib.hid ((ints_of_own ho).1)
              clear hB ho
              go_wp2_with fail
              refine (C3.out _ (HP.out.below HB.out (Nat.le_refl _)) (HS.out.below HB.out (Nat.le_refl _))).mono ?_
              rintro e w3 ⟨x2, k2, rfl, ho, hB⟩
              have R1 := Lib.hid (R1.out.below hB (Nat.le_refl _))
              have HB := Lib.hid (HB.out.trans (hB.mono HB.out.size))
              have R2 := Lib.hid ((ints_of_own ho).1)
              clear hB ho
              go_wp2_with fail
              refine (C4.out _ (HP.out.below HB.out (Nat.le_refl _)) (HA.out.below HB.out (Nat.le_refl _))).mono ?_
              rintro e w4 ⟨x3, k3, rfl, ho, hB⟩
              have R1 := Lib.hid (R1.out.below hB (Nat.le_refl _))
              have R2 := Lib.hid (R2.out.below hB (Nat.le_refl _))
              have HB := Lib.hid (HB.out.trans (hB.mono HB.out.size))
              have R3 := Lib.hid ((ranges_of_own ho).1)
              clear hB ho
              go_wp2_with fail
              refine (known6_true _ ).mono ?_
              rintro e w5 ⟨rfl, hB⟩
              have R1 := Lib.hid (R1.out.below hB (Nat.le_refl _))
              have R2 := Lib.hid (R2.out.below hB (Nat.le_refl _))
              have R3 := Lib.hid (R3.out.below hB (Nat.le_refl _))
              have HB := Lib.hid (HB.out.trans (hB.mono HB.out.size))
              clear hB
              go_wp2_with fail
              go_ret
              exact ⟨rfl, HB.out⟩

end Go.Proofs.Ytmpghapfldjfeaa
