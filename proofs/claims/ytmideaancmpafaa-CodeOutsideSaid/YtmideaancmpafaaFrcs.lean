/- CodeForces: the walk. -/
import Derived.Test.YtmideaancmpafaaForC
import Derived.Test.YtmideaancmpafaaLines
set_option linter.unusedVariables false
set_option linter.unusedSimpArgs false
namespace Go.Proofs.Ytmideaancmpafaa
open Go.RowKit Tinker

theorem fA_len (ps : List L) (s ls vs : List Int) : (fA ps s ls vs).length ≤ 4 := by
  by_cases h : fC ps s ls vs = 0
  · exact Nat.le_of_eq (fA_ok h).1
  · rw [fA_no h]; simp

/-- A boxed pair of lists. -/
structure BoxF (x : Nat) (c d : Option Addr) (n m cc cd : Nat) (w W : World) : Prop where
  bl : W.heap[x]? = some (.cells #[.slice c n cc, .slice d m cd] 46 (0, 0))
  below : Below w.heap.size w W
theorem BoxF.low {x : Nat} {c d : Option Addr} {n m cc cd : Nat} {w W W' : World} (h : BoxF x c d n m cc cd w W) (hb : Below W.heap.size W W') : BoxF x c d n m cc cd w W' := ⟨hp_below h.bl hb (hp_lt h.bl), h.below.trans (hb.mono h.below.size)⟩
theorem BoxF.c0 {x : Nat} {c d : Option Addr} {n m cc cd : Nat} {w W : World} (h : BoxF x c d n m cc cd w W) : W.cell? ⟨x, 0, none⟩ = some (.slice c n cc) := hp_cell h.bl (by rfl)
theorem BoxF.c1 {x : Nat} {c d : Option Addr} {n m cc cd : Nat} {w W : World} (h : BoxF x c d n m cc cd w W) : W.cell? ⟨x, 1, none⟩ = some (.slice d m cd) := hp_cell h.bl (by rfl)

set_option maxRecDepth 100000 in
set_option maxHeartbeats 2000000 in
theorem codeForces_walk (a : Option Addr) (ca : Nat) (ps : List L) (b : Option Addr) (cb : Nat) (s : List Int) (c : Option Addr) (cc : Nat) (ls : List Int) (d : Option Addr) (cd : Nat) (vs : List Int) (w : World) (hp : LinesAt w a ps) (hc : a = none → ca = 0) (hs : IntsAt w b s) (hd : b = none → cb = 0) (hl : IntsAt w c ls) (he : c = none → cc = 0) (hv : IntsAt w d vs) (hf : d = none → cd = 0) :
    Calls Try.prog 8 #[.slice a ps.length ca, .slice b s.length cb, .agg #[.slice c ls.length cc, .slice d vs.length cd]] w fun e w' => e = .returned (.bool true) ∧ Below w.heap.size w w' := by
  have HL := Lib.hid (fun w => long_any a ps.length ca w)
  have HM := Lib.hid (fun w => large_any b s.length cb w)
  have HM2 := Lib.hid (fun w => large_any c ls.length cc w)
  have HM3 := Lib.hid (fun w => large_any d vs.length cd w)
  have hI : BoxF w.heap.size c d ls.length vs.length cc cd w (w.alloc (.cells #[.slice c ls.length cc, .slice d vs.length cd] 46)) := ⟨hp_new rfl, (Below.refl _ _).alloc (Nat.le_refl _) _⟩
  have x0 := hI.c0
  have x1 := hI.c1
  clear hc hd he hf
  by_cases hbig : ps.length ≤ 100 ∧ s.length ≤ 100 ∧ ls.length ≤ 100 ∧ vs.length ≤ 100
  · obtain ⟨g1, g2, g3, g4⟩ := hbig
    rw [show decide ((100 : Int) < (ps.length : Int)) = false by simp; omega] at HL
    rw [show decide ((100 : Int) < (s.length : Int)) = false by simp; omega] at HM
    rw [show decide ((100 : Int) < (ls.length : Int)) = false by simp; omega] at HM2
    rw [show decide ((100 : Int) < (vs.length : Int)) = false by simp; omega] at HM3
    have HB := Lib.hid (fun w hp hs hl hv => force_any a b c d ca cb cc cd ps s ls vs w hp hs hl hv (by omega) (by omega) (by omega))
    have HR := Lib.hid (fun w hp hs hl hv => rForce_any a b c d ca cb cc cd ps s ls vs w hp hs hl hv (by omega) (by omega))
    have hlen := fA_len ps s ls vs
    generalize fA ps s ls vs = o at HB HR hlen
    generalize fC ps s ls vs = co at HB HR
    go_enter Try.func8, Try.ntmps8
    go_wp2_with fail
    refine (HL.out _).mono ?_
    rintro e w' ⟨rfl, rfl⟩
    go_wp2_with fail
    refine (HM.out _).mono ?_
    rintro e w' ⟨rfl, rfl⟩
    go_wp2_with fail
    refine (HM2.out _).mono ?_
    rintro e w' ⟨rfl, rfl⟩
    go_wp2_with fail
    refine (HM3.out _).mono ?_
    rintro e w' ⟨rfl, rfl⟩
    go_wp2_with fail
    refine (HB.out _ (hp.below hI.below (Nat.le_refl _)) (hs.below hI.below (Nat.le_refl _)) (hl.below hI.below (Nat.le_refl _)) (hv.below hI.below (Nat.le_refl _))).mono ?_
    intro e w1 hG
    obtain ⟨a1, c1, rfl, hi1, hB1⟩ := hG.weak
    have hI1 := hI.low hB1
    have HI1 := Lib.hid hi1
    clear hi1 hG x0 x1 hI hB1
    have x0 := hI1.c0
    have x1 := hI1.c1
    go_wp2_with fail
    refine (HR.out _ (hp.below hI1.below (Nat.le_refl _)) (hs.below hI1.below (Nat.le_refl _)) (hl.below hI1.below (Nat.le_refl _)) (hv.below hI1.below (Nat.le_refl _))).mono ?_
    intro e w2 hG
    obtain ⟨a2, c2, rfl, hi2, hB2⟩ := hG
    have hI2 := hI1.low hB2
    have HI2 := Lib.hid hi2
    have HI3 := Lib.hid (HI1.out.below hB2 (Nat.le_refl _))
    clear hi2 HI1 hB2 x0 x1 hI1
    go_wp2_with fail
    refine (same_self o.length _ _ _ _ o _ rfl HI3.out HI2.out (by omega)).mono ?_
    rintro e w3 ⟨rfl, hB4⟩
    have hI3 := hI2.low hB4
    clear hI2 hB4
    go_wp2_with fail
    refine (known_true _).mono ?_
    rintro e w4 ⟨rfl, hB6⟩
    go_wp2_with fail
    go_ret
    exact ⟨rfl, (hI3.low hB6).below⟩
  · have hc : 100 < ps.length ∨ (ps.length ≤ 100 ∧ 100 < s.length) ∨ (ps.length ≤ 100 ∧ s.length ≤ 100 ∧ 100 < ls.length) ∨ (ps.length ≤ 100 ∧ s.length ≤ 100 ∧ ls.length ≤ 100 ∧ 100 < vs.length) := by omega
    clear hbig hp hs hl hv
    rcases hc with g1 | ⟨g1, g2⟩ | ⟨g1, g2, g3⟩ | ⟨g1, g2, g3, g4⟩
    · rw [show decide ((100 : Int) < (ps.length : Int)) = true by simp; omega] at HL
      go_enter Try.func8, Try.ntmps8
      go_wp2_with fail
      refine (HL.out _).mono ?_
      rintro e w' ⟨rfl, rfl⟩
      go_wp2_with fail
      refine (known_true _).mono ?_
      rintro e wk ⟨rfl, hBk⟩
      go_wp2_with fail
      go_ret
      exact ⟨rfl, (hI.low hBk).below⟩
    · rw [show decide ((100 : Int) < (ps.length : Int)) = false by simp; omega] at HL
      rw [show decide ((100 : Int) < (s.length : Int)) = true by simp; omega] at HM
      go_enter Try.func8, Try.ntmps8
      go_wp2_with fail
      refine (HL.out _).mono ?_
      rintro e w' ⟨rfl, rfl⟩
      go_wp2_with fail
      refine (HM.out _).mono ?_
      rintro e w' ⟨rfl, rfl⟩
      go_wp2_with fail
      refine (known_true _).mono ?_
      rintro e wk ⟨rfl, hBk⟩
      go_wp2_with fail
      go_ret
      exact ⟨rfl, (hI.low hBk).below⟩
    · rw [show decide ((100 : Int) < (ps.length : Int)) = false by simp; omega] at HL
      rw [show decide ((100 : Int) < (s.length : Int)) = false by simp; omega] at HM
      rw [show decide ((100 : Int) < (ls.length : Int)) = true by simp; omega] at HM2
      go_enter Try.func8, Try.ntmps8
      go_wp2_with fail
      refine (HL.out _).mono ?_
      rintro e w' ⟨rfl, rfl⟩
      go_wp2_with fail
      refine (HM.out _).mono ?_
      rintro e w' ⟨rfl, rfl⟩
      go_wp2_with fail
      refine (HM2.out _).mono ?_
      rintro e w' ⟨rfl, rfl⟩
      go_wp2_with fail
      refine (known_true _).mono ?_
      rintro e wk ⟨rfl, hBk⟩
      go_wp2_with fail
      go_ret
      exact ⟨rfl, (hI.low hBk).below⟩
    · rw [show decide ((100 : Int) < (ps.length : Int)) = false by simp; omega] at HL
      rw [show decide ((100 : Int) < (s.length : Int)) = false by simp; omega] at HM
      rw [show decide ((100 : Int) < (ls.length : Int)) = false by simp; omega] at HM2
      rw [show decide ((100 : Int) < (vs.length : Int)) = true by simp; omega] at HM3
      go_enter Try.func8, Try.ntmps8
      go_wp2_with fail
      refine (HL.out _).mono ?_
      rintro e w' ⟨rfl, rfl⟩
      go_wp2_with fail
      refine (HM.out _).mono ?_
      rintro e w' ⟨rfl, rfl⟩
      go_wp2_with fail
      refine (HM2.out _).mono ?_
      rintro e w' ⟨rfl, rfl⟩
      go_wp2_with fail
      refine (HM3.out _).mono ?_
      rintro e w' ⟨rfl, rfl⟩
      go_wp2_with fail
      refine (known_true _).mono ?_
      rintro e wk ⟨rfl, hBk⟩
      go_wp2_with fail
      go_ret
      exact ⟨rfl, (hI.low hBk).below⟩

end Go.Proofs.Ytmideaancmpafaa
