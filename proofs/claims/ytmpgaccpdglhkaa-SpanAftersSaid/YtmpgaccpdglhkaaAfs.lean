/- SpanAfters: the walk. -/
import Derived.Test.YtmpgaccpdglhkaaSpM
import Derived.Test.YtmpgaccpdglhkaaSrT
set_option linter.unusedVariables false
set_option linter.unusedSimpArgs false
namespace Go.Proofs.Ytmpgaccpdglhkaa
open Go.RowKit Tinker
theorem afA_len (ps : List L) (b : List Rg) : (afA ps b).length ≤ 4 := by
  unfold afA
  split
  · rename_i h
    obtain ⟨z1, z2⟩ := fe_zero h
    have := (end_ok (vp_ok z1).2 (vb_ok z2)).l4
    omega
  · simp
theorem bfX_len (ps : List L) (b : List Rg) (n : Int) : ((bfX ps b n).getD []).length ≤ 4 := by
  unfold bfX
  split
  · rename_i h
    have hz : fe (vp ps) (vb b) = 0 := by
      by_cases e : fe (vp ps) (vb b) = 0
      · exact e
      · unfold bfC at h; rw [if_neg e] at h; exact absurd h e
    obtain ⟨z1, z2⟩ := fe_zero hz
    have hok := okSt_at (vp_ok z1).2 (vb_ok z2) ps.length n.toNat
    cases hx : (spL ps b).getD n.toNat none with
    | none => simp
    | some y => have := (hok y hx).l4; simp; omega
  · simp

set_option maxRecDepth 100000 in
set_option maxHeartbeats 8000000 in
theorem spanAfters_walk (g : Option Addr) (cg : Nat) (ps : List L) (a2 : Option Addr) (c2 : Nat) (b : List Rg) (n : Int) (w : World) (hp : LinesAt w g ps) (hcg : g = none → cg = 0) (hb : RangesAt w a2 b) (hc : a2 = none → c2 = 0) :
    Calls Try.prog 3 #[.slice g ps.length cg, .slice a2 b.length c2, .int .i64 n] w fun e w' => e = .returned (.bool true) ∧ Below w.heap.size w w' := by
  clear hc hcg
  by_cases h1 : 100 < ps.length
  · have e1 : decide ((100 : Int) < (ps.length : Int)) = true := decide_eq_true (by omega)
    have HL := Lib.hid (fun w => long_any g ps.length cg w)
    rw [e1] at HL
    clear h1 e1 hp hb
    go_enter Try.func3, Try.ntmps3
    go_wp2_with fail
    refine (HL.out _).mono ?_
    rintro e w0 ⟨rfl, rfl⟩
    go_wp2_with fail
    refine (known6_true _ ).mono ?_
    rintro e w1 ⟨rfl, hB⟩
    have HB := Lib.hid hB
    clear hB
    go_wp2_with fail
    go_ret
    exact ⟨rfl, HB.out⟩
  · have e1 : decide ((100 : Int) < (ps.length : Int)) = false := decide_eq_false (by omega)
    have HL := Lib.hid (fun w => long_any g ps.length cg w)
    rw [e1] at HL
    by_cases h2 : 100 < b.length
    · have e2 : decide ((100 : Int) < (b.length : Int)) = true := decide_eq_true (by omega)
      have HG := Lib.hid (fun w => long6_any a2 b.length c2 w)
      rw [e2] at HG
      clear h1 e1 h2 e2 hp hb
      go_enter Try.func3, Try.ntmps3
      go_wp2_with fail
      refine (HL.out _).mono ?_
      rintro e w0 ⟨rfl, rfl⟩
      go_wp2_with fail
      refine (HG.out _).mono ?_
      rintro e w0 ⟨rfl, rfl⟩
      go_wp2_with fail
      refine (known6_true _ ).mono ?_
      rintro e w1 ⟨rfl, hB⟩
      have HB := Lib.hid hB
      clear hB
      go_wp2_with fail
      go_ret
      exact ⟨rfl, HB.out⟩
    · have e2 : decide ((100 : Int) < (b.length : Int)) = false := decide_eq_false (by omega)
      have HG := Lib.hid (fun w => long6_any a2 b.length c2 w)
      rw [e2] at HG
      have C1 := Lib.hid (fun w h1 h2 => sAfter_any g a2 cg c2 ps b w h1 h2)
      have C2 := Lib.hid (fun w h1 h2 => rAfter_any g a2 cg c2 ps b w h1 h2)
      have C3 := Lib.hid (fun w h1 h2 => sBefore_any g a2 cg c2 ps b n w h1 h2 (by omega))
      have C4 := Lib.hid (fun w h1 h2 => rBefore_any g a2 cg c2 ps b n w h1 h2 (by omega))
      have HP := Lib.hid hp
      have HX := Lib.hid hb
      have l1 := afA_len ps b
      have l2 := bfX_len ps b n
      have nk : ((bfX ps b n).isSome == (bfX ps b n).isSome) = true := by simp
      unfold GivesRgE at C1 C2
      unfold GivesRgB at C3 C4
      generalize afA ps b = M at *
      generalize (bfX ps b n).getD [] = B at *
      generalize (bfX ps b n).isSome = K at *
      generalize bfC ps b n = D at *
      generalize fe (vp ps) (vb b) = E at *
      clear e1 e2 h1 h2 hp hb
      go_enter Try.func3, Try.ntmps3
      go_wp2_with fail
      refine (HL.out _).mono ?_
      rintro e w0 ⟨rfl, rfl⟩
      go_wp2_with fail
      refine (HG.out _).mono ?_
      rintro e w0 ⟨rfl, rfl⟩
      go_wp2_with fail
      refine (C1.out _ HP.out HX.out).mono ?_
      rintro e w1 ⟨x0, k0, rfl, ho, hB⟩
      have HB := Lib.hid hB
      have R1 := Lib.hid ((ranges_of_own ho).1)
      clear hB ho
      go_wp2_with fail
      refine (C2.out _ (HP.out.below HB.out (Nat.le_refl _)) (HX.out.below HB.out (Nat.le_refl _))).mono ?_
      rintro e w2 ⟨x1, k1, rfl, ho, hB⟩
      have R1 := Lib.hid (R1.out.below hB (Nat.le_refl _))
      have HB := Lib.hid (HB.out.trans (hB.mono HB.out.size))
      have R2 := Lib.hid ((ranges_of_own ho).1)
      clear hB ho
      go_wp2_with fail
      refine (C3.out _ (HP.out.below HB.out (Nat.le_refl _)) (HX.out.below HB.out (Nat.le_refl _))).mono ?_
      rintro e w3 ⟨x2, k2, rfl, ho, hB⟩
      have R1 := Lib.hid (R1.out.below hB (Nat.le_refl _))
      have R2 := Lib.hid (R2.out.below hB (Nat.le_refl _))
      have HB := Lib.hid (HB.out.trans (hB.mono HB.out.size))
      have R3 := Lib.hid ((ranges_of_own ho).1)
      clear hB ho
      go_wp2_with fail
      refine (C4.out _ (HP.out.below HB.out (Nat.le_refl _)) (HX.out.below HB.out (Nat.le_refl _))).mono ?_
      rintro e w4 ⟨x3, k3, rfl, ho, hB⟩
      have R1 := Lib.hid (R1.out.below hB (Nat.le_refl _))
      have R2 := Lib.hid (R2.out.below hB (Nat.le_refl _))
      have R3 := Lib.hid (R3.out.below hB (Nat.le_refl _))
      have HB := Lib.hid (HB.out.trans (hB.mono HB.out.size))
      have R4 := Lib.hid ((ranges_of_own ho).1)
      clear hB ho
      go_wp2_with fail
      refine (sameG_self M.length _ _ _ _ _ _ rfl R1.out R2.out (by omega)).mono ?_
      rintro e w5 ⟨rfl, hB⟩
      have R1 := Lib.hid (R1.out.below hB (Nat.le_refl _))
      have R2 := Lib.hid (R2.out.below hB (Nat.le_refl _))
      have R3 := Lib.hid (R3.out.below hB (Nat.le_refl _))
      have R4 := Lib.hid (R4.out.below hB (Nat.le_refl _))
      have HB := Lib.hid (HB.out.trans (hB.mono HB.out.size))
      clear hB
      go_wp2_with fail
      refine (sameG_self B.length _ _ _ _ _ _ rfl R3.out R4.out (by omega)).mono ?_
      rintro e w6 ⟨rfl, hB⟩
      have R1 := Lib.hid (R1.out.below hB (Nat.le_refl _))
      have R2 := Lib.hid (R2.out.below hB (Nat.le_refl _))
      have R3 := Lib.hid (R3.out.below hB (Nat.le_refl _))
      have R4 := Lib.hid (R4.out.below hB (Nat.le_refl _))
      have HB := Lib.hid (HB.out.trans (hB.mono HB.out.size))
      clear hB
      go_wp2_with fail
      refine (known6_true _ ).mono ?_
      rintro e w7 ⟨rfl, hB⟩
      have R1 := Lib.hid (R1.out.below hB (Nat.le_refl _))
      have R2 := Lib.hid (R2.out.below hB (Nat.le_refl _))
      have R3 := Lib.hid (R3.out.below hB (Nat.le_refl _))
      have R4 := Lib.hid (R4.out.below hB (Nat.le_refl _))
      have HB := Lib.hid (HB.out.trans (hB.mono HB.out.size))
      clear hB
      go_wp2_with fail
      go_ret
      exact ⟨rfl, HB.out⟩

end Go.Proofs.Ytmpgaccpdglhkaa
