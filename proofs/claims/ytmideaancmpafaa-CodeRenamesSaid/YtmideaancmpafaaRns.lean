/- CodeRenames: the walk. -/
import Derived.Test.YtmideaancmpafaaRenD
import Derived.Test.YtmideaancmpafaaRuns
set_option linter.unusedVariables false
set_option linter.unusedSimpArgs false
namespace Go.Proofs.Ytmideaancmpafaa
open Go.RowKit Tinker

theorem renames_eq {ps : List L} {s nm : List Int} (h1 : rnC ps nm = 0) (h2 : moC s nm = 0) : vr ps s = 0 ∧ vr (rnP ps nm) (moP s nm) = 0 ∧ moC (runL ps s) nm = 0 ∧ runL (rnP ps nm) (moP s nm) = moP (runL ps s) nm := by
  obtain ⟨a, b⟩ := rnC_ok h1
  obtain ⟨c, _⟩ := moC_ok h2
  have v1 : vr ps s = 0 := by unfold vr fe; rw [if_pos a]; exact c
  have e1 : runL ps s = runE ps s := by unfold runL; rw [if_pos v1]
  have hok := runE_ok v1
  have v2 : vr (rnP ps nm) (moP s nm) = 0 := by rw [rnP_yes h1, moP_yes h2]; exact vr_ren b a c
  have v3 : moC (runL ps s) nm = 0 := by unfold moC fe nmC; rw [e1, if_pos (vs_ok' hok.1 hok.2), b]; rfl
  refine ⟨v1, v2, v3, ?_⟩
  have e2 : runL (rnP ps nm) (moP s nm) = runE (rnP ps nm) (moP s nm) := by unfold runL; rw [if_pos v2]
  rw [e2, moP_yes v3, e1, rnP_yes h1, moP_yes h2]
  exact runE_ren b (vp_ok a).2 (vs_ok c).1

set_option maxRecDepth 100000 in
set_option maxHeartbeats 4000000 in
theorem codeRenames_walk (a : Option Addr) (ca : Nat) (ps : List L) (b : Option Addr) (cb : Nat) (s : List Int) (d : Option Addr) (cd : Nat) (nm : List Int) (w : World) (hp : LinesAt w a ps) (hc : a = none → ca = 0) (hs : IntsAt w b s) (hd : b = none → cb = 0) (hn : IntsAt w d nm) (he : d = none → cd = 0) :
    Calls Try.prog 13 #[.slice a ps.length ca, .slice b s.length cb, .slice d nm.length cd] w fun e w' => e = .returned (.bool true) ∧ Below w.heap.size w w' := by
  have HL := Lib.hid (fun w => long_any a ps.length ca w)
  have HM := Lib.hid (fun w => large_any b s.length cb w)
  have HM2 := Lib.hid (fun w => large_any d nm.length cd w)
  by_cases hbig : ps.length ≤ 100 ∧ s.length ≤ 100 ∧ nm.length ≤ 100
  · obtain ⟨g1, g2, g3⟩ := hbig
    rw [show decide ((100 : Int) < (ps.length : Int)) = false by simp; omega] at HL
    rw [show decide ((100 : Int) < (s.length : Int)) = false by simp; omega] at HM
    rw [show decide ((100 : Int) < (nm.length : Int)) = false by simp; omega] at HM2
    have HJ := Lib.hid (fun w hp hn => rename_any a d ca cd ps nm w hp hn (by omega) (by omega))
    have HK := Lib.hid (fun w hp hn => rRename_any a d ca cd ps nm w hp hc hn (by omega) (by omega))
    have HX := Lib.hid (fun w hs hn => move_any b d cb cd s nm w hs hn (by omega) (by omega))
    have HY := Lib.hid (fun w hs hn => rMove_any b d cb cd s nm w hs hn (by omega) (by omega))
    have HR := Lib.hid (fun w hp hs => run_any a b ca cb ps s w hp hs (by omega))
    have hml := moP_len s nm
    have hjl := rnP_len ps nm
    have hel := runL_len ps s
    have HZ := Lib.hid (fun aj cj ak ck w hj hs => run_any aj ak cj ck (rnP ps nm) (moP s nm) w hj hs (by omega))
    have HW := Lib.hid (fun ak ck w hs hn => move_any ak d ck cd (runL ps s) nm w hs hn (by omega) (by omega))
    have HFin := Lib.hid (fun h1 h2 => renames_eq (ps := ps) (s := s) (nm := nm) h1 h2)
    have hwl := moP_len (runL ps s) nm
    generalize rnC ps nm = c1 at HJ HK HFin
    generalize moC s nm = c2 at HX HY HFin
    generalize runL (rnP ps nm) (moP s nm) = Z at HZ HFin
    generalize vr (rnP ps nm) (moP s nm) = c3 at HZ HFin
    generalize moP (runL ps s) nm = V at HW HFin hwl
    generalize moC (runL ps s) nm = c4 at HW HFin
    generalize rnP ps nm = J at HJ HK HZ hjl
    generalize moP s nm = M at HX HY HZ hml
    generalize runL ps s = E at HR HW hel
    generalize vr ps s = c5 at HR HFin
    clear hc hd he
    have cc1 : (c1 != c1) = false := by simp
    have cc2 : (c2 != c2) = false := by simp
    go_enter Try.func13, Try.ntmps13
    go_wp2_with fail
    refine (HL.out _).mono ?_
    rintro e w' ⟨rfl, rfl⟩
    go_wp2_with fail
    refine (HM.out _).mono ?_
    rintro e w' ⟨rfl, rfl⟩
    go_wp2_with fail
    refine (HM2.out _).mono ?_
    rintro e w' ⟨rfl, rfl⟩
    go_wp2_with fail
    refine (HJ.out _ hp hn).mono ?_
    intro e w1 hG
    obtain ⟨a1, k1, rfl, hown, hB⟩ := hG
    have HJ1 := Lib.hid (lines_of_own hown).1
    clear hown
    go_wp2_with fail
    refine (HK.out _ (hp.below hB (Nat.le_refl _)) (hn.below hB (Nat.le_refl _))).mono ?_
    intro e w2 hG
    obtain ⟨a2, k2, rfl, hown, hB2⟩ := hG
    have hB' := hB.trans (hB2.mono hB.size)
    have HJ2 := Lib.hid (HJ1.out.below hB2 (Nat.le_refl _))
    have HK2 := Lib.hid (lines_of_own hown).1
    clear hown HJ1 hB hB2
    go_wp2_with fail
    refine (HX.out _ (hs.below hB' (Nat.le_refl _)) (hn.below hB' (Nat.le_refl _))).mono ?_
    intro e w3 hG
    obtain ⟨a3, k3, rfl, hi3, hB3⟩ := hG
    have hB := hB'.trans (hB3.mono hB'.size)
    have HJ3 := Lib.hid (HJ2.out.below hB3 (Nat.le_refl _))
    have HK3 := Lib.hid (HK2.out.below hB3 (Nat.le_refl _))
    have HM3 := Lib.hid hi3
    clear hi3 HJ2 HK2 hB' hB3
    go_wp2_with fail
    refine (HY.out _ (hs.below hB (Nat.le_refl _)) (hn.below hB (Nat.le_refl _))).mono ?_
    intro e w4 hG
    obtain ⟨a4, k4, rfl, hi4, hB4⟩ := hG
    have hB' := hB.trans (hB4.mono hB.size)
    have HJ4 := Lib.hid (HJ3.out.below hB4 (Nat.le_refl _))
    have HK4 := Lib.hid (HK3.out.below hB4 (Nat.le_refl _))
    have HM4 := Lib.hid (HM3.out.below hB4 (Nat.le_refl _))
    have HN4 := Lib.hid hi4
    clear hi4 HJ3 HK3 HM3 hB hB4
    go_wp2_with fail
    refine (sameL_self J.length _ _ _ _ J _ rfl HJ4.out HK4.out (by omega)).mono ?_
    rintro e w5 ⟨rfl, hB5⟩
    have hB := hB'.trans (hB5.mono hB'.size)
    have HJ5 := Lib.hid (HJ4.out.below hB5 (Nat.le_refl _))
    have HM5 := Lib.hid (HM4.out.below hB5 (Nat.le_refl _))
    have HN5 := Lib.hid (HN4.out.below hB5 (Nat.le_refl _))
    clear HJ4 HK4 HM4 HN4 hB' hB5
    go_wp2_with fail
    refine (same_self M.length _ _ _ _ M _ rfl HM5.out HN5.out (by omega)).mono ?_
    rintro e w6 ⟨rfl, hB6⟩
    have HB := Lib.hid (hB.trans (hB6.mono hB.size))
    have HJ6 := Lib.hid (HJ5.out.below hB6 (Nat.le_refl _))
    have HM6 := Lib.hid (HM5.out.below hB6 (Nat.le_refl _))
    clear HJ5 HM5 HN5 hB hB6
    by_cases hz1 : c1 = 0
    · subst hz1
      by_cases hz2 : c2 = 0
      · subst hz2
        obtain ⟨rfl, rfl, rfl, rfl⟩ := HFin.out rfl rfl
        clear HFin
        go_wp2_with fail
        refine (HR.out _ (hp.below HB.out (Nat.le_refl _)) (hs.below HB.out (Nat.le_refl _))).mono ?_
        intro e w7 hG
        obtain ⟨a7, k7, rfl, hi7, hB7⟩ := hG.weak
        have HB7 := Lib.hid (HB.out.trans (hB7.mono HB.out.size))
        have HJ7 := Lib.hid (HJ6.out.below hB7 (Nat.le_refl _))
        have HM7 := Lib.hid (HM6.out.below hB7 (Nat.le_refl _))
        have HE7 := Lib.hid hi7
        clear hi7 hG hB7 HB HJ6 HM6
        go_wp2_with fail
        refine (HZ.out _ _ _ _ _ HJ7.out HM7.out).mono ?_
        intro e w8 hG
        obtain ⟨a8, k8, rfl, hi8, hB8⟩ := hG.weak
        have HB8 := Lib.hid (HB7.out.trans (hB8.mono HB7.out.size))
        have HE8 := Lib.hid (HE7.out.below hB8 (Nat.le_refl _))
        have HZ8 := Lib.hid hi8
        clear hi8 hG hB8 HB7 HJ7 HM7 HE7
        go_wp2_with fail
        refine (HW.out _ _ _ HE8.out (hn.below HB8.out (Nat.le_refl _))).mono ?_
        intro e w9 hG
        obtain ⟨a9, k9, rfl, hi9, hB9⟩ := hG
        have HB9 := Lib.hid (HB8.out.trans (hB9.mono HB8.out.size))
        have HZ9 := Lib.hid (HZ8.out.below hB9 (Nat.le_refl _))
        have HV9 := Lib.hid hi9
        clear hi9 hB9 HB8 HE8 HZ8
        go_wp2_with fail
        refine (same_self Z.length _ _ _ _ Z _ rfl HZ9.out HV9.out (by omega)).mono ?_
        rintro e w10 ⟨rfl, hB10⟩
        have HB := Lib.hid (HB9.out.trans (hB10.mono HB9.out.size))
        clear hB10
        go_wp2_with fail
        refine (known_true _).mono ?_
        rintro e wk ⟨rfl, hBk⟩
        go_wp2_with fail
        go_ret
        exact ⟨rfl, HB.out.trans (hBk.mono HB.out.size)⟩
      · have hz2' : (c2 != 0) = true := by simpa using hz2
        have hz2'' : (c2 == 0) = false := by simpa using hz2
        clear hz2 HFin
        go_wp2_with fail
        refine (known_true _).mono ?_
        rintro e wk ⟨rfl, hBk⟩
        go_wp2_with fail
        go_ret
        exact ⟨rfl, HB.out.trans (hBk.mono HB.out.size)⟩
    · have hz1' : (c1 != 0) = true := by simpa using hz1
      have hz1'' : (c1 == 0) = false := by simpa using hz1
      clear hz1 HFin
      go_wp2_with fail
      refine (known_true _).mono ?_
      rintro e wk ⟨rfl, hBk⟩
      go_wp2_with fail
      go_ret
      exact ⟨rfl, HB.out.trans (hBk.mono HB.out.size)⟩
  · have hcs : 100 < ps.length ∨ (ps.length ≤ 100 ∧ 100 < s.length) ∨ (ps.length ≤ 100 ∧ s.length ≤ 100 ∧ 100 < nm.length) := by omega
    have HB := Lib.hid (Below.refl w.heap.size w)
    clear hbig hp hs hn hc hd he
    rcases hcs with g1 | ⟨g1, g2⟩ | ⟨g1, g2, g3⟩
    · rw [show decide ((100 : Int) < (ps.length : Int)) = true by simp; omega] at HL
      go_enter Try.func13, Try.ntmps13
      go_wp2_with fail
      refine (HL.out _).mono ?_
      rintro e w' ⟨rfl, rfl⟩
      go_wp2_with fail
      refine (known_true _).mono ?_
      rintro e wk ⟨rfl, hBk⟩
      go_wp2_with fail
      go_ret
      exact ⟨rfl, HB.out.trans (hBk.mono HB.out.size)⟩
    · rw [show decide ((100 : Int) < (ps.length : Int)) = false by simp; omega] at HL
      rw [show decide ((100 : Int) < (s.length : Int)) = true by simp; omega] at HM
      go_enter Try.func13, Try.ntmps13
      go_wp2_with fail
      refine (HL.out _).mono ?_
      rintro e w' ⟨rfl, rfl⟩
      go_wp2_with fail
      refine (HM.out _).mono ?_
      rintro e w' ⟨rfl, rfl⟩
      go_wp2_with fail
      refine (known_true _).mono ?_
      rintro e wk ⟨rfl, hBk⟩
      go_wp2_with fail
      go_ret
      exact ⟨rfl, HB.out.trans (hBk.mono HB.out.size)⟩
    · rw [show decide ((100 : Int) < (ps.length : Int)) = false by simp; omega] at HL
      rw [show decide ((100 : Int) < (s.length : Int)) = false by simp; omega] at HM
      rw [show decide ((100 : Int) < (nm.length : Int)) = true by simp; omega] at HM2
      go_enter Try.func13, Try.ntmps13
      go_wp2_with fail
      refine (HL.out _).mono ?_
      rintro e w' ⟨rfl, rfl⟩
      go_wp2_with fail
      refine (HM.out _).mono ?_
      rintro e w' ⟨rfl, rfl⟩
      go_wp2_with fail
      refine (HM2.out _).mono ?_
      rintro e w' ⟨rfl, rfl⟩
      go_wp2_with fail
      refine (known_true _).mono ?_
      rintro e wk ⟨rfl, hBk⟩
      go_wp2_with fail
      go_ret
      exact ⟨rfl, HB.out.trans (hBk.mono HB.out.size)⟩

end Go.Proofs.Ytmideaancmpafaa
