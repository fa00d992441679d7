/- CheckTables: the walk. -/
import Derived.Test.YtndmjenfgggfbaaChkF
import Derived.Test.YtndmjenfgggfbaaCovA
set_option linter.unusedVariables false
set_option linter.unusedSimpArgs false
namespace Go.Proofs.Ytndmjenfgggfbaa
open Go.RowKit Tinker

theorem tabL_len (ps : List L) (ts : List T) : (tabL ps ts).length ≤ ts.length ∧ ∀ z ∈ tabL ps ts, z.length ≤ ps.length := by
  unfold tabL
  split
  · refine ⟨by simp, fun z hz => ?_⟩
    obtain ⟨t, _, rfl⟩ := List.mem_map.1 hz
    rw [rowL_length]; exact Nat.le_refl _
  · exact ⟨by simp, fun z hz => by simp at hz⟩
theorem covL_len (ps : List L) (ts : List T) : (covL ps ts).length ≤ ps.length := by
  unfold covL
  split
  · have := plcTo_length (covB ps ts) (covB ps ts).length
    rw [covB_length] at this
    unfold plc; rw [covB_length]; exact this
  · simp

set_option maxRecDepth 100000 in
set_option maxHeartbeats 2000000 in
theorem checkTables_big (a : Option Addr) (ca : Nat) (ps : List L) (g : Option Addr) (cap : Nat) (ts : List T) (w : World) (hts : TestsAt w g ts) (hbig : 100 < ps.length ∨ (ps.length ≤ 100 ∧ manyB ts = true)) :
    Calls Try.prog 5 #[.slice a ps.length ca, .slice g ts.length cap] w fun e w' => e = .returned (.bool true) ∧ Below w.heap.size w w' := by
  have HL := Lib.hid (fun w => long_any a ps.length ca w)
  have HM := Lib.hid (fun w hts => many_any g cap ts w hts)
  rcases hbig with g0 | ⟨g0, g1⟩
  · rw [show decide ((100 : Int) < (ps.length : Int)) = true by simp; omega] at HL
    go_enter Try.func5, Try.ntmps5
    go_wp2_with fail
    refine (HL.out _).mono ?_
    rintro e w' ⟨rfl, rfl⟩
    go_wp2_with fail
    refine (known2_true _).mono ?_
    rintro e wk ⟨rfl, hBk⟩
    go_wp2_with fail
    go_ret
    exact ⟨rfl, hBk⟩
  · rw [show decide ((100 : Int) < (ps.length : Int)) = false by simp; omega] at HL
    rw [g1] at HM
    go_enter Try.func5, Try.ntmps5
    go_wp2_with fail
    refine (HL.out _).mono ?_
    rintro e w' ⟨rfl, rfl⟩
    go_wp2_with fail
    refine (HM.out _ hts).mono ?_
    rintro e wg1 ⟨rfl, hG1⟩
    have HX1 := Lib.hid hG1
    clear hG1
    go_wp2_with fail
    refine (known2_true _).mono ?_
    rintro e wk ⟨rfl, hBk⟩
    go_wp2_with fail
    go_ret
    exact ⟨rfl, HX1.out.trans (hBk.mono HX1.out.size)⟩

set_option maxRecDepth 100000 in
set_option maxHeartbeats 4000000 in
theorem checkTables_walk (a : Option Addr) (ca : Nat) (ps : List L) (g : Option Addr) (cap : Nat) (ts : List T) (w : World) (hp : LinesAt w a ps) (hc : a = none → ca = 0) (hts : TestsAt w g ts) (hd : g = none → cap = 0) :
    Calls Try.prog 5 #[.slice a ps.length ca, .slice g ts.length cap] w fun e w' => e = .returned (.bool true) ∧ Below w.heap.size w w' := by
  clear hc hd
  by_cases hbig : 100 < ps.length ∨ (ps.length ≤ 100 ∧ manyB ts = true)
  · exact checkTables_big a ca ps g cap ts w hts hbig
  · have g1 : ps.length ≤ 100 := by omega
    have g2 : manyB ts = false := by
      cases h : manyB ts
      · rfl
      · exact absurd (.inr ⟨g1, h⟩) hbig
    have HL := Lib.hid (fun w => long_any a ps.length ca w)
    have HM := Lib.hid (fun w hts => many_any g cap ts w hts)
    rw [show decide ((100 : Int) < (ps.length : Int)) = false by simp; omega] at HL
    rw [g2] at HM
    obtain ⟨g3, g4⟩ := many_no g2
    have g5 : ∀ t ∈ ts, t.inn.length ≤ 1000 := fun t ht => by have := g4 t ht; omega
    have C1 := Lib.hid (fun w hp hts => table_any a g ca cap ps ts w hp hts (by omega) g5)
    have C2 := Lib.hid (fun w hp hts => rTable_any a g ca cap ps ts w hp hts)
    have C3 := Lib.hid (fun w hp hts => covered_any a g ca cap ps ts w hp hts (by omega) g5)
    have C4 := Lib.hid (fun w hp hts => rCovered_any a g ca cap ps ts w hp hts)
    obtain ⟨n1, n3⟩ := tabL_len ps ts
    have n2 := covL_len ps ts
    generalize tabL ps ts = X at C1 C2 n1 n3
    generalize covL ps ts = Y at C3 C4 n2
    generalize vpt ps ts = c at C1 C2 C3 C4
    have N3 := Lib.hid (show ∀ z ∈ X, z.length ≤ 1000 from fun z hz => by have := n3 z hz; omega)
    clear hbig g2 g4 g5 n3
    generalize hXl : X.length = n at C1 C2 n1
    generalize hYl : Y.length = m at C3 C4 n2
    have HXl := Lib.hid hXl
    have HYl := Lib.hid hYl
    clear hXl hYl
    have cc : (c == c) = true := by simp
    go_enter Try.func5, Try.ntmps5
    go_wp2_with fail
    refine (HL.out _).mono ?_
    rintro e w' ⟨rfl, rfl⟩
    go_wp2_with fail
    refine (HM.out _ hts).mono ?_
    rintro e w0 ⟨rfl, hB0⟩
    go_wp2_with fail
    refine (C1.out _ (hp.below hB0 (Nat.le_refl _)) (hts.below hB0 (Nat.le_refl _))).mono ?_
    rintro e w1 ⟨a1, c1, rfl, hi1, hB1⟩
    have hB1 := hB0.trans (hB1.mono hB0.size)
    have HI1 := Lib.hid hi1
    rw [HXl.out]
    clear hi1 hB0
    go_wp2_with fail
    refine (C2.out _ (hp.below hB1 (Nat.le_refl _)) (hts.below hB1 (Nat.le_refl _))).mono ?_
    rintro e w2 ⟨a2, c2, rfl, hi2, hB2⟩
    have HI1 := Lib.hid (HI1.out.below hB2 (Nat.le_refl _))
    have hB2 := hB1.trans (hB2.mono hB1.size)
    have HI2 := Lib.hid hi2
    rw [HXl.out]
    clear hi2 hB1
    go_wp2_with fail
    refine (C3.out _ (hp.below hB2 (Nat.le_refl _)) (hts.below hB2 (Nat.le_refl _))).mono ?_
    intro e w3 hG
    obtain ⟨a3, c3, rfl, hi3, hB3⟩ := hG.weak
    have HI1 := Lib.hid (HI1.out.below hB3 (Nat.le_refl _))
    have HI2 := Lib.hid (HI2.out.below hB3 (Nat.le_refl _))
    have hB3 := hB2.trans (hB3.mono hB2.size)
    have HI3 := Lib.hid hi3
    rw [HYl.out]
    clear hi3 hG hB2
    go_wp2_with fail
    refine (C4.out _ (hp.below hB3 (Nat.le_refl _)) (hts.below hB3 (Nat.le_refl _))).mono ?_
    intro e w4 hG
    obtain ⟨a4, c4, rfl, hi4, hB4⟩ := hG
    have HI1 := Lib.hid (HI1.out.below hB4 (Nat.le_refl _))
    have HI2 := Lib.hid (HI2.out.below hB4 (Nat.le_refl _))
    have HI3 := Lib.hid (HI3.out.below hB4 (Nat.le_refl _))
    have hB4 := hB3.trans (hB4.mono hB3.size)
    have HI4 := Lib.hid hi4
    rw [HYl.out]
    clear hi4 hB3
    go_wp2_with fail
    refine (sameLists_self n _ _ _ _ X _ HXl.out HI1.out HI2.out (by omega) N3.out).mono ?_
    rintro e w7 ⟨rfl, hB7⟩
    have HI3 := Lib.hid (HI3.out.below hB7 (Nat.le_refl _))
    have HI4 := Lib.hid (HI4.out.below hB7 (Nat.le_refl _))
    have hB7 := hB4.trans (hB7.mono hB4.size)
    clear hB4
    go_wp2_with fail
    refine (same_self m _ _ _ _ Y _ HYl.out HI3.out HI4.out (by omega)).mono ?_
    rintro e w8 ⟨rfl, hB8⟩
    have hB8 := hB7.trans (hB8.mono hB7.size)
    clear hB7
    go_wp2_with fail
    refine (known2_true _).mono ?_
    rintro e w9 ⟨rfl, hB9⟩
    go_wp2_with fail
    go_ret
    exact ⟨rfl, hB8.trans (hB9.mono hB8.size)⟩

end Go.Proofs.Ytndmjenfgggfbaa
