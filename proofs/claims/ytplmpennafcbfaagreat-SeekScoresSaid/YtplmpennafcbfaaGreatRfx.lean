/- tested, sought, fixes, Fixes of the document (package tinkerref05): contracts. -/
import Derived.Test.YtplmpennafcbfaaGreatFxE
import Derived.Test.YtplmpennafcbfaaGreatRtm
import Derived.Test.YtplmpennafcbfaaGreatFxR
import Derived.Test.YtplmpennafcbfaaGreatCnF
set_option linter.unusedVariables false
set_option linter.unusedSimpArgs false
namespace Go.Proofs.YtplmpennafcbfaaGreat
open Go.RowKit Go.Shelf Tinker

theorem rcand_any (a : Option Addr) (ca : Nat) (ps : List L) (i : Nat) (n : Int) (w : World) (hp : LinesAt w a ps) (hv : vp ps = 0) (hi : i < ps.length) (h0 : 0 ≤ n) (h2 : n ≤ 2) :
    Calls Tryz.prog 70 #[.slice a ps.length ca, .int .i64 (i : Int), .int .i64 n] w (GivesLines (cndL ps i n) w) := by
  have hn : n = 0 ∨ n = 1 ∨ n = 2 := by omega
  rcases hn with rfl | rfl | rfl
  · exact rcand0_any a ca ps i w hp hv hi
  · exact rcand1_any a ca ps i w hp hv hi
  · exact rcand2_any a ca ps i w hp hv hi

set_option maxHeartbeats 1000000 in
theorem rtested5_any (a h : Option Addr) (ca ch : Nat) (ps : List L) (ts : List T) (w : World) (hp : LinesAt w a ps) (hts : TestsAt w h ts) :
    Calls Tryz.prog 41 #[.slice a ps.length ca, .slice h ts.length ch] w fun e w' => e = .returned (.int .i64 (feL [vp ps, vts ts])) ∧ Below w.heap.size w w' := by
  have H1 := Lib.hid (fun w h9 => rValidate_any a ca ps w h9)
  have H2 := Lib.hid (fun w h9 => rValidateTests_any h ch ts w h9)
  have HP := Lib.hid hp
  have HT := Lib.hid hts
  rw [feL_two]
  unfold fe
  generalize vp ps = d1 at *
  generalize vts ts = d2 at *
  clear hp hts
  by_cases hz : d1 = 0
  · subst hz
    rw [if_pos rfl]
    go_enter Tryz.func41, Tryz.ntmps41
    go_wp2_with fail
    refine (H1.out _ HP.out).mono ?_
    rintro e w1 ⟨rfl, hB⟩
    have HB1 := Lib.hid hB
    clear hB
    go_wp2_with fail
    refine (H2.out _ (HT.out.below HB1.out (Nat.le_refl _))).mono ?_
    rintro e w2 ⟨rfl, hB⟩
    have HB2 := Lib.hid (HB1.out.trans (hB.mono HB1.out.size))
    clear hB
    go_wp2_with fail
    go_ret
    exact ⟨rfl, HB2.out⟩
  · have hz1 : (d1 != 0) = true := by simpa using hz
    rw [if_neg hz]
    clear hz
    go_enter Tryz.func41, Tryz.ntmps41
    go_wp2_with fail
    refine (H1.out _ HP.out).mono ?_
    rintro e w1 ⟨rfl, hB⟩
    have HB1 := Lib.hid hB
    clear hB
    go_wp2_with fail
    go_ret
    exact ⟨rfl, HB1.out⟩

theorem skC_1 {ps : List L} {ts : List T} {n : Int} (h : feL [vp ps, vts ts] ≠ 0) : skC ps ts n = feL [vp ps, vts ts] := by
  unfold skC
  rw [feL]
  exact if_neg h
theorem skC_2 {ps : List L} {ts : List T} {n : Int} (h : feL [vp ps, vts ts] = 0) (hn : n < 0 ∨ 2 < n) : skC ps ts n = 1 := by
  unfold skC kdC
  rw [feL, if_pos h, if_neg (by omega), feL]
  rfl
theorem skC_3 {ps : List L} {ts : List T} {n : Int} (h : feL [vp ps, vts ts] = 0) (h0 : 0 ≤ n) (h2 : n ≤ 2) : skC ps ts n = if (ts.all fun t => pas ps t) = true then 8 else 0 := by
  obtain ⟨h3, h4⟩ := fe2_ok h
  unfold skC kdC
  rw [feL, if_pos h, if_pos ⟨h0, h2⟩, feL, if_pos rfl, nd_all h3 h4]
  generalize (if (ts.all fun t => pas ps t) = true then (8 : Int) else 0) = q
  simp only [feL]
  by_cases hq : q = 0
  · rw [if_pos hq, hq]
  · rw [if_neg hq]
set_option maxRecDepth 100000 in
set_option maxHeartbeats 1000000 in
theorem rsought_any (a h : Option Addr) (ca ch : Nat) (ps : List L) (ts : List T) (n : Int) (w : World) (hp : LinesAt w a ps) (hts : TestsAt w h ts) :
    Calls Tryz.prog 29 #[.slice a ps.length ca, .slice h ts.length ch, .int .i64 n] w fun e w' => e = .returned (.int .i64 (skC ps ts n)) ∧ Below w.heap.size w w' := by
  have H1 := Lib.hid (fun w h1 h2 => rtested5_any a h ca ch ps ts w h1 h2)
  have HP := Lib.hid hp
  have HT := Lib.hid hts
  clear hp hts
  by_cases hz : feL [vp ps, vts ts] = 0
  · obtain ⟨h3, h4⟩ := fe2_ok hz
    rw [hz] at H1
    by_cases hn : n < 0
    · have d1 : decide (n < 0) = true := by simpa using hn
      rw [skC_2 hz (.inl hn)]
      clear hz h3 h4
      go_enter Tryz.func29, Tryz.ntmps29
      go_wp2_with fail
      refine (H1.out _ HP.out HT.out).mono ?_
      rintro e w1 ⟨rfl, hB⟩
      have HB1 := Lib.hid hB
      clear hB
      go_wp2_with fail
      go_ret
      exact ⟨rfl, HB1.out⟩
    · have d1 : decide (n < 0) = false := by simpa using hn
      by_cases hn2 : 2 < n
      · have d2 : decide (2 < n) = true := by simpa using hn2
        rw [skC_2 hz (.inr hn2)]
        clear hz h3 h4
        go_enter Tryz.func29, Tryz.ntmps29
        go_wp2_with fail
        refine (H1.out _ HP.out HT.out).mono ?_
        rintro e w1 ⟨rfl, hB⟩
        have HB1 := Lib.hid hB
        clear hB
        go_wp2_with fail
        go_ret
        exact ⟨rfl, HB1.out⟩
      · have d2 : decide (2 < n) = false := by simpa using hn2
        rw [skC_3 hz (by omega) (by omega)]
        have H2 := Lib.hid (fun w h1 h2 => rPassesAll_any a h ca ch ps ts w h1 h2 h3 h4)
        generalize (ts.all fun t => pas ps t) = r at *
        clear hz h3 h4
        cases r
        · rw [if_neg (by decide)]
          go_enter Tryz.func29, Tryz.ntmps29
          go_wp2_with fail
          refine (H1.out _ HP.out HT.out).mono ?_
          rintro e w1 ⟨rfl, hB⟩
          have HB1 := Lib.hid hB
          clear hB
          go_wp2_with fail
          refine (H2.out _ (HP.out.below HB1.out (Nat.le_refl _)) (HT.out.below HB1.out (Nat.le_refl _))).mono ?_
          rintro e w2 ⟨rfl, hB⟩
          have HB2 := Lib.hid (HB1.out.trans (hB.mono HB1.out.size))
          clear hB
          go_wp2_with fail
          go_ret
          exact ⟨rfl, HB2.out⟩
        · rw [if_pos rfl]
          go_enter Tryz.func29, Tryz.ntmps29
          go_wp2_with fail
          refine (H1.out _ HP.out HT.out).mono ?_
          rintro e w1 ⟨rfl, hB⟩
          have HB1 := Lib.hid hB
          clear hB
          go_wp2_with fail
          refine (H2.out _ (HP.out.below HB1.out (Nat.le_refl _)) (HT.out.below HB1.out (Nat.le_refl _))).mono ?_
          rintro e w2 ⟨rfl, hB⟩
          have HB2 := Lib.hid (HB1.out.trans (hB.mono HB1.out.size))
          clear hB
          go_wp2_with fail
          go_ret
          exact ⟨rfl, HB2.out⟩
  · rw [skC_1 hz]
    generalize feL [vp ps, vts ts] = d at *
    have hz1 : (d != 0) = true := by simpa using hz
    clear hz
    go_enter Tryz.func29, Tryz.ntmps29
    go_wp2_with fail
    refine (H1.out _ HP.out HT.out).mono ?_
    rintro e w1 ⟨rfl, hB⟩
    have HB1 := Lib.hid hB
    clear hB
    go_wp2_with fail
    go_ret
    exact ⟨rfl, HB1.out⟩

theorem fxC_1 {ps : List L} {ts : List T} {i n : Int} (h : feL [vp ps, vts ts] ≠ 0) : fxC ps ts i n = feL [vp ps, vts ts] := by
  unfold fxC
  rw [feL]
  exact if_neg h
theorem fxC_2 {ps : List L} {ts : List T} {i n : Int} (h : feL [vp ps, vts ts] = 0) (hi : i < 0 ∨ (ps.length : Int) ≤ i) : fxC ps ts i n = 4 := by
  have h1 : plC ps i = 4 := by
    unfold plC
    rw [if_neg]
    intro hb
    have := btw_true.1 hb
    omega
  unfold fxC
  rw [feL, if_pos h, h1, feL]
  rfl
theorem fxC_3 {ps : List L} {ts : List T} {i n : Int} (h : feL [vp ps, vts ts] = 0) (h0 : 0 ≤ i) (h2 : i < (ps.length : Int)) : fxC ps ts i n = skC ps ts n := by
  have h1 : plC ps i = 0 := by
    unfold plC
    rw [if_pos (btw_true.2 ⟨h0, by omega⟩)]
  unfold fxC skC
  rw [feL, if_pos h, h1, feL, if_pos rfl]
  conv => rhs; rw [feL]
  rw [if_pos h]

end Go.Proofs.YtplmpennafcbfaaGreat
