/- CodeExchanges: the walk. -/
import Derived.Test.YtmideaancmpafaaExB
import Derived.Test.YtmideaancmpafaaRuns
set_option linter.unusedVariables false
set_option linter.unusedSimpArgs false
namespace Go.Proofs.Ytmideaancmpafaa
open Go.RowKit Tinker

theorem exch_eq {ps : List L} {n : Int} {s : List Int} (h : xcC ps n = 0) : vr (xcP ps n) s = vr ps s ∧ runL (xcP ps n) s = runL ps s := by
  obtain ⟨h1, h2⟩ := xcC_ok h
  obtain ⟨h3, h4, h5⟩ := epC_ok h1
  rw [xcP_yes h]
  have hv : vp (swp ps n.toNat) = 0 := vp_ok' (by rw [swp_length]; exact (vp_ok h3).1) fun l hl => (vp_ok h3).2 l (swp_mem h5 hl)
  have e : vr (swp ps n.toNat) s = vr ps s := by unfold vr; rw [hv, h3]
  refine ⟨e, ?_⟩
  unfold runL
  rw [e]
  split
  · unfold ceB at h2
    rw [Bool.and_eq_true, indB_in] at h2
    exact runE_swp (vp_ok h3).2 h5 h2.2 h2.1
  · rfl

set_option maxRecDepth 100000 in
set_option maxHeartbeats 4000000 in
theorem codeExchanges_walk (a : Option Addr) (ca : Nat) (ps : List L) (n : Int) (c : Option Addr) (cc : Nat) (s : List Int) (w : World) (hp : LinesAt w a ps) (hc : a = none → ca = 0) (hcap : ps.length ≤ ca) (hs : IntsAt w c s) (he : c = none → cc = 0) :
    Calls Try.prog 12 #[.slice a ps.length ca, .int .i64 n, .slice c s.length cc] w fun e w' => e = .returned (.bool true) ∧ Below w.heap.size w w' := by
  have HL := Lib.hid (fun w => long_any a ps.length ca w)
  have HM := Lib.hid (fun w => large_any c s.length cc w)
  by_cases hbig : ps.length ≤ 100 ∧ s.length ≤ 100
  · obtain ⟨g1, g2⟩ := hbig
    rw [show decide ((100 : Int) < (ps.length : Int)) = false by simp; omega] at HL
    rw [show decide ((100 : Int) < (s.length : Int)) = false by simp; omega] at HM
    have HJ := Lib.hid (fun w hp => CanExchange_any a ca ps n w hp (by omega) hcap)
    have HK := Lib.hid (fun w hp => rCanExchange_any a ca ps n w hp (by omega))
    have HX := Lib.hid (fun w hp => exchange_any a ca ps n w hp (by omega) hcap)
    have HY := Lib.hid (fun w hp => rExchange_any a ca ps n w hp hc (by omega))
    have HR := Lib.hid (fun w hp hs => run_any a c ca cc ps s w hp hs (by omega))
    have HZ := Lib.hid (fun aj cj w hj hs => run_any aj c cj cc (xcP ps n) s w hj hs (by omega))
    have HFin := Lib.hid (fun h1 => exch_eq (ps := ps) (n := n) (s := s) h1)
    have hjl := xcP_length ps n
    have hel := runL_len ps s
    generalize xcC ps n = c1 at HX HY HFin
    generalize ceA ps n = b1 at HJ HK
    generalize epC ps n = c0 at HJ HK
    generalize runL (xcP ps n) s = Z at HZ HFin
    generalize vr (xcP ps n) s = c4 at HZ HFin
    generalize xcP ps n = J at HX HY HZ hjl
    generalize runL ps s = E at HR HFin hel
    generalize vr ps s = c2 at HR HFin
    clear hc he hcap
    have bb : (b1 != b1) = false := by cases b1 <;> rfl
    have cc0 : (c0 != c0) = false := by simp
    have cc1 : (c1 != c1) = false := by simp
    go_enter Try.func12, Try.ntmps12
    go_wp2_with fail
    refine (HL.out _).mono ?_
    rintro e w' ⟨rfl, rfl⟩
    go_wp2_with fail
    refine (HM.out _).mono ?_
    rintro e w' ⟨rfl, rfl⟩
    go_wp2_with fail
    refine (HJ.out _ hp).mono ?_
    rintro e w1 ⟨rfl, hB1⟩
    go_wp2_with fail
    refine (HK.out _ (hp.below hB1 (Nat.le_refl _))).mono ?_
    rintro e w2 ⟨rfl, hB2⟩
    have hB := hB1.trans (hB2.mono hB1.size)
    clear hB1 hB2
    go_wp2_with fail
    refine (HX.out _ (hp.below hB (Nat.le_refl _))).mono ?_
    intro e w3 hG
    obtain ⟨a1, k1, rfl, hown, hB1⟩ := hG
    have hB' := hB.trans (hB1.mono hB.size)
    have HJ1 := Lib.hid (lines_of_own hown).1
    clear hown hB hB1
    go_wp2_with fail
    refine (HY.out _ (hp.below hB' (Nat.le_refl _))).mono ?_
    intro e w4 hG
    obtain ⟨a2, k2, rfl, hown, hB2⟩ := hG
    have hB := hB'.trans (hB2.mono hB'.size)
    have HJ2 := Lib.hid (HJ1.out.below hB2 (Nat.le_refl _))
    have HK2 := Lib.hid (lines_of_own hown).1
    clear hown HJ1 hB' hB2
    go_wp2_with fail
    refine (sameL_self J.length _ _ _ _ J _ rfl HJ2.out HK2.out (by omega)).mono ?_
    rintro e w5 ⟨rfl, hB3⟩
    have hB' := hB.trans (hB3.mono hB.size)
    have HJ3 := Lib.hid (HJ2.out.below hB3 (Nat.le_refl _))
    clear HJ2 HK2 hB hB3
    go_wp2_with fail
    refine (HR.out _ (hp.below hB' (Nat.le_refl _)) (hs.below hB' (Nat.le_refl _))).mono ?_
    intro e w6 hG
    obtain ⟨a4, k4, rfl, hi4, hB4⟩ := hG.weak
    have hB := hB'.trans (hB4.mono hB'.size)
    have HJ4 := Lib.hid (HJ3.out.below hB4 (Nat.le_refl _))
    have HE4 := Lib.hid hi4
    clear hi4 hG HJ3 hB' hB4 cc0
    go_wp2_with fail
    refine (HZ.out _ _ _ HJ4.out (hs.below hB (Nat.le_refl _))).mono ?_
    intro e w7 hG
    obtain ⟨a5, k5, rfl, hi5, hB5⟩ := hG.weak
    have HB := Lib.hid (hB.trans (hB5.mono hB.size))
    have HE5 := Lib.hid (HE4.out.below hB5 (Nat.le_refl _))
    have HZ5 := Lib.hid hi5
    clear hi5 hG HJ4 HE4 hB hB5
    by_cases hz1 : c1 = 0
    · subst hz1
      obtain ⟨rfl, rfl⟩ := HFin.out rfl
      have c44 : (c4 == c4) = true := by simp
      clear HFin
      go_wp2_with fail
      refine (same_self Z.length _ _ _ _ Z _ rfl HE5.out HZ5.out (by omega)).mono ?_
      rintro e w8 ⟨rfl, hB7⟩
      have HB := Lib.hid (HB.out.trans (hB7.mono HB.out.size))
      clear hB7
      go_wp2_with fail
      refine (known_true _).mono ?_
      rintro e wk ⟨rfl, hBk⟩
      go_wp2_with fail
      go_ret
      exact ⟨rfl, HB.out.trans (hBk.mono HB.out.size)⟩
    · have hz1' : (c1 != 0) = true := by simpa using hz1
      have hz1'' : (c1 == 0) = false := by simpa using hz1
      clear hz1 HFin
      go_wp2_with fail
      refine (known_true _).mono ?_
      rintro e wk ⟨rfl, hBk⟩
      go_wp2_with fail
      go_ret
      exact ⟨rfl, HB.out.trans (hBk.mono HB.out.size)⟩
  · have hcs : 100 < ps.length ∨ (ps.length ≤ 100 ∧ 100 < s.length) := by omega
    have HB := Lib.hid (Below.refl w.heap.size w)
    clear hbig hp hs hc he hcap
    rcases hcs with g1 | ⟨g1, g2⟩
    · rw [show decide ((100 : Int) < (ps.length : Int)) = true by simp; omega] at HL
      go_enter Try.func12, Try.ntmps12
      go_wp2_with fail
      refine (HL.out _).mono ?_
      rintro e w' ⟨rfl, rfl⟩
      go_wp2_with fail
      refine (known_true _).mono ?_
      rintro e wk ⟨rfl, hBk⟩
      go_wp2_with fail
      go_ret
      exact ⟨rfl, HB.out.trans (hBk.mono HB.out.size)⟩
    · rw [show decide ((100 : Int) < (ps.length : Int)) = false by simp; omega] at HL
      rw [show decide ((100 : Int) < (s.length : Int)) = true by simp; omega] at HM
      go_enter Try.func12, Try.ntmps12
      go_wp2_with fail
      refine (HL.out _).mono ?_
      rintro e w' ⟨rfl, rfl⟩
      go_wp2_with fail
      refine (HM.out _).mono ?_
      rintro e w' ⟨rfl, rfl⟩
      go_wp2_with fail
      refine (known_true _).mono ?_
      rintro e wk ⟨rfl, hBk⟩
      go_wp2_with fail
      go_ret
      exact ⟨rfl, HB.out.trans (hBk.mono HB.out.size)⟩

end Go.Proofs.Ytmideaancmpafaa
