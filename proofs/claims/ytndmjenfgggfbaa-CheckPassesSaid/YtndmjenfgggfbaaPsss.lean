/- CheckPasses: the walk. -/
import Derived.Test.YtndmjenfgggfbaaChkF
import Derived.Test.YtndmjenfgggfbaaChkP
set_option linter.unusedVariables false
set_option linter.unusedSimpArgs false
namespace Go.Proofs.Ytndmjenfgggfbaa
open Go.RowKit Tinker

set_option maxRecDepth 100000 in
set_option maxHeartbeats 4000000 in
theorem checkPasses_walk (a : Option Addr) (ca : Nat) (ps : List L) (b : Option Addr) (cb : Nat) (t : T) (w : World) (hp : LinesAt w a ps) (hc : a = none → ca = 0) (hs : IntsAt w b t.inn) (hd : b = none → cb = 0) :
    Calls Try.prog 3 #[.slice a ps.length ca, .agg #[.slice b t.inn.length cb, .int .i64 t.out, .int .i64 t.want]] w fun e w' => e = .returned (.bool true) ∧ Below w.heap.size w w' := by
  clear hc hd
  have HL := Lib.hid (fun w => long_any a ps.length ca w)
  have HM := Lib.hid (fun w => large2_any b t.inn.length cb w)
  have HI := Lib.hid (boxT_new (a := b) (n := t.inn.length) (ca := cb) (out := t.out) (want := t.want) w)
  have x0 := HI.out.c0
  have x1 := HI.out.c1
  have x2 := HI.out.c2
  by_cases hbig : ps.length ≤ 100 ∧ t.inn.length ≤ 100
  · obtain ⟨g1, g2⟩ := hbig
    rw [show decide ((100 : Int) < (ps.length : Int)) = false by simp; omega] at HL
    rw [show decide ((100 : Int) < (t.inn.length : Int)) = false by simp; omega] at HM
    have C1 := Lib.hid (fun w hp hs => passes_C a b ca cb ps t w hp hs (by omega))
    have C2 := Lib.hid (fun w hp hs => rPasses_any a b ca cb ps t w hp hs)
    generalize passV ps t = V at C1 C2
    generalize vpt ps [t] = c at C1 C2
    have vv : (V == V) = true := by simp
    have cc : (c == c) = true := by simp
    clear g1 g2
    go_enter Try.func3, Try.ntmps3
    go_wp2_with fail
    refine (HL.out _).mono ?_
    rintro e w' ⟨rfl, rfl⟩
    go_wp2_with fail
    refine (HM.out _).mono ?_
    rintro e w' ⟨rfl, rfl⟩
    go_wp2_with fail
    refine (C1.out _ (hp.below HI.out.below (Nat.le_refl _)) (hs.below HI.out.below (Nat.le_refl _))).mono ?_
    rintro e w1 ⟨rfl, hB⟩
    have HI1 := Lib.hid (HI.out.low hB)
    clear hB HI x0 x1 x2
    have x0 := HI1.out.c0
    have x1 := HI1.out.c1
    have x2 := HI1.out.c2
    go_wp2_with fail
    refine (C2.out _ (hp.below HI1.out.below (Nat.le_refl _)) (hs.below HI1.out.below (Nat.le_refl _))).mono ?_
    rintro e w2 ⟨rfl, hB⟩
    have HI2 := Lib.hid (HI1.out.low hB)
    clear hB HI1 x0 x1 x2
    go_wp2_with fail
    refine (known2_true _).mono ?_
    rintro e w3 ⟨rfl, hB⟩
    go_wp2_with fail
    go_ret
    exact ⟨rfl, (HI2.out.low hB).below⟩
  · have hc : 100 < ps.length ∨ (ps.length ≤ 100 ∧ 100 < t.inn.length) := by omega
    clear hbig hp hs
    rcases hc with g1 | ⟨g1, g2⟩
    · rw [show decide ((100 : Int) < (ps.length : Int)) = true by simp; omega] at HL
      go_enter Try.func3, Try.ntmps3
      go_wp2_with fail
      refine (HL.out _).mono ?_
      rintro e w' ⟨rfl, rfl⟩
      go_wp2_with fail
      refine (known2_true _).mono ?_
      rintro e wk ⟨rfl, hBk⟩
      go_wp2_with fail
      go_ret
      exact ⟨rfl, (HI.out.low hBk).below⟩
    · rw [show decide ((100 : Int) < (ps.length : Int)) = false by simp; omega] at HL
      rw [show decide ((100 : Int) < (t.inn.length : Int)) = true by simp; omega] at HM
      go_enter Try.func3, Try.ntmps3
      go_wp2_with fail
      refine (HL.out _).mono ?_
      rintro e w' ⟨rfl, rfl⟩
      go_wp2_with fail
      refine (HM.out _).mono ?_
      rintro e w' ⟨rfl, rfl⟩
      go_wp2_with fail
      refine (known2_true _).mono ?_
      rintro e wk ⟨rfl, hBk⟩
      go_wp2_with fail
      go_ret
      exact ⟨rfl, (HI.out.low hBk).below⟩

end Go.Proofs.Ytndmjenfgggfbaa
