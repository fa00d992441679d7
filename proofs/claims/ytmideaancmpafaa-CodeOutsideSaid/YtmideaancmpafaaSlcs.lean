/- CodeSlices: the walk. -/
import Derived.Test.YtmideaancmpafaaRSl
import Derived.Test.YtmideaancmpafaaLines
set_option linter.unusedVariables false
set_option linter.unusedSimpArgs false
namespace Go.Proofs.Ytmideaancmpafaa
open Go.RowKit Tinker

theorem slA_len (ps : List L) (s : List Int) (r : Int) : (slA ps s r).length ≤ 8 := by
  unfold slA
  split
  · rename_i h
    have hz : vr ps s = 0 := by
      unfold slCode at h
      split at h
      · assumption
      · exact h
    have := plcTo_length (sliceB ps (doneL (runS ps s)) r.toNat) (sliceB ps (doneL (runS ps s)) r.toNat).length
    unfold plc
    have e : (sliceB ps (doneL (runS ps s)) r.toNat).length = 8 := by unfold sliceB; rw [(foldSl_length _ _ _).2]; simp [sl0]
    rwa [e] at this ⊢
  · simp

set_option maxRecDepth 100000 in
set_option maxHeartbeats 1000000 in
theorem codeSlices_walk (a : Option Addr) (ca : Nat) (ps : List L) (b : Option Addr) (cb : Nat) (s : List Int) (n : Int) (w : World) (hp : LinesAt w a ps) (hc : a = none → ca = 0) (hs : IntsAt w b s) (hd : b = none → cb = 0) :
    Calls Try.prog 7 #[.slice a ps.length ca, .slice b s.length cb, .int .i64 n] w fun e w' => e = .returned (.bool true) ∧ Below w.heap.size w w' := by
  have HL := Lib.hid (fun w => long_any a ps.length ca w)
  have HM := Lib.hid (fun w => large_any b s.length cb w)
  clear hc hd
  cases h1 : decide ((100 : Int) < (ps.length : Int))
  · cases h2 : decide ((100 : Int) < (s.length : Int))
    · have g1 : ¬ (100 : Int) < (ps.length : Int) := by simpa using h1
      have g2 : ¬ (100 : Int) < (s.length : Int) := by simpa using h2
      have hp1 : ps.length ≤ 1000 := by omega
      have hs1 : s.length ≤ 1000 := by omega
      rw [h1] at HL
      rw [h2] at HM
      have HB := Lib.hid (fun w hp hs => slice_any a b ca cb ps s n w hp hs (by omega))
      have HR := Lib.hid (fun w hp hs => rSlice_any a b ca cb ps s n w hp hs)
      have hlen := slA_len ps s n
      generalize slA ps s n = o at HB HR hlen
      generalize slCode ps s n = c at HB HR
      clear h1 h2 g1 g2 hp1 hs1
      go_enter Try.func7, Try.ntmps7
      go_wp2_with (first | (go_at_call 15; refine (HL.out _).mono ?_; rintro e w' ⟨rfl, rfl⟩) | (go_at_call 16; refine (HM.out _).mono ?_; rintro e w' ⟨rfl, rfl⟩))
      refine (HB.out _ hp hs).mono ?_
      intro e w1 hG
      obtain ⟨a1, c1, rfl, hi1, hB1⟩ := hG.weak
      have HI1 := Lib.hid hi1
      clear hi1
      go_wp2_with fail
      refine (HR.out _ (hp.below hB1 (Nat.le_refl _)) (hs.below hB1 (Nat.le_refl _))).mono ?_
      intro e w2 hG
      obtain ⟨a2, c2, rfl, hi2, hB2⟩ := hG
      have hB3 := hB1.trans (hB2.mono hB1.size)
      have HI2 := Lib.hid hi2
      have HI3 := Lib.hid (HI1.out.below hB2 (Nat.le_refl _))
      clear hi2 HI1 hB2
      go_wp2_with fail
      refine (same_self o.length _ _ _ _ o _ rfl HI3.out HI2.out (by omega)).mono ?_
      rintro e w3 ⟨rfl, hB4⟩
      have hB5 := hB3.trans (hB4.mono hB3.size)
      go_wp2_with fail
      refine (known_true _).mono ?_
      rintro e w4 ⟨rfl, hB6⟩
      go_wp2_with fail
      go_ret
      exact ⟨rfl, hB5.trans (hB6.mono hB5.size)⟩
    · rw [h1] at HL
      rw [h2] at HM
      clear h1 h2 hp hs
      go_enter Try.func7, Try.ntmps7
      go_wp2_with (first | (go_at_call 15; refine (HL.out _).mono ?_; rintro e w' ⟨rfl, rfl⟩) | (go_at_call 16; refine (HM.out _).mono ?_; rintro e w' ⟨rfl, rfl⟩))
      refine (known_true _).mono ?_
      rintro e w1 ⟨rfl, hB⟩
      go_wp2_with fail
      go_ret
      exact ⟨rfl, hB⟩
  · rw [h1] at HL
    clear h1 hp hs
    go_enter Try.func7, Try.ntmps7
    go_wp2_with (go_at_call 15; refine (HL.out _).mono ?_; rintro e w' ⟨rfl, rfl⟩)
    refine (known_true _).mono ?_
    rintro e w1 ⟨rfl, hB⟩
    go_wp2_with fail
    go_ret
    exact ⟨rfl, hB⟩

end Go.Proofs.Ytmideaancmpafaa
