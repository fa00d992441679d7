/- Scores; equal fractions; the law's own known. -/
import Derived.Test.YtndmjenfgggfbaaChkD
set_option linter.unusedVariables false
set_option linter.unusedSimpArgs false
namespace Go.Proofs.Ytndmjenfgggfbaa
open Go.RowKit Tinker

set_option maxRecDepth 100000 in
set_option maxHeartbeats 1000000 in
theorem scores_ok (a g : Option Addr) (ca cap : Nat) (ps : List L) (ts : List T) (w : World) (hp : LinesAt w a ps) (hts : TestsAt w g ts) (hz : vpt ps ts = 0) :
    Calls Try.prog 35 #[.slice a ps.length ca, .slice g ts.length cap] w fun e w' => ∃ Q, e = .returned (.tuple #[.slice (some ⟨Q, 0, none⟩) ps.length ps.length, .int .i64 0]) ∧ w'.heap[Q]? = some (.cells (qv (scL ps ts)) 49 (0, 0)) ∧ Below w.heap.size w w' := by
  obtain ⟨h1, h2⟩ := vpt_ok hz
  obtain ⟨t8, hT⟩ := vts_ok h2
  have HV := Lib.hid (fun w hp hts => validateTestsP_any a g ca cap ps ts w hp hts (by omega) (fun t ht => by have := (vs_ok (isT_ok (hT t ht)).1).1; omega))
  have HS := Lib.hid (fun w hp hts => scores_A a g ca cap ps ts w hp hts h1 h2)
  rw [hz] at HV
  clear hz h1 h2 t8 hT
  go_enter Try.func35, Try.ntmps35
  go_wp2_with fail
  refine (HV.out _ hp hts).mono ?_
  rintro e w1 ⟨rfl, hB⟩
  go_wp2_with fail
  refine (HS.out _ (hp.below hB (Nat.le_refl _)) (hts.below hB (Nat.le_refl _))).mono ?_
  rintro e w2 ⟨Q, rfl, hq, hB2⟩
  go_wp2_with fail
  go_ret2
  exact ⟨Q, rfl, hq, hB.trans (hB2.mono hB.size)⟩

set_option maxRecDepth 100000 in
set_option maxHeartbeats 1000000 in
theorem sameRats_self (n Q1 Q2 ca cb : Nat) (qs : List (Int × Int)) (w : World) (hn : qs.length = n) (h1 : w.heap[Q1]? = some (.cells (qv qs) 49 (0, 0))) (h2 : w.heap[Q2]? = some (.cells (qv qs) 49 (0, 0))) (hm : n ≤ 1000) :
    Calls Try.prog 37 #[.slice (some ⟨Q1, 0, none⟩) n ca, .slice (some ⟨Q2, 0, none⟩) n cb] w fun e w' => e = .returned (.bool true) ∧ Below w.heap.size w w' := by
  have hnn : ((n : Int) != (n : Int)) = false := by simp
  go_enter Try.func37, Try.ntmps37
  go_wp2_with fail
  go_loopw [5] (fun s5 wr => ∃ k : Nat, k ≤ n ∧ s5 = .int .i64 k ∧ wr.heap[Q1]? = some (.cells (qv qs) 49 (0, 0)) ∧ wr.heap[Q2]? = some (.cells (qv qs) 49 (0, 0)) ∧ Below w.heap.size w wr) (fun s5 _ => n - (intOf s5).toNat)
  case atStart => exact ⟨0, Nat.zero_le _, rfl, h1, h2, Below.refl _ _⟩
  case round =>
    obtain ⟨k, hk, rfl, ha, hb, hB⟩ := hrel
    have HA := Lib.hid ha
    have HB2 := Lib.hid hb
    have HB := Lib.hid hB
    clear ha hb hB
    by_cases hlt : k < n
    · obtain ⟨q, hq⟩ := get_of_lt (show k < qs.length by omega)
      have a0 := hp_cell HA.out (qv_get hq).1
      have a1 := hp_cell HA.out (qv_get hq).2
      have b0 := hp_cell HB2.out (qv_get hq).1
      have b1 := hp_cell HB2.out (qv_get hq).2
      have e1 : (q.1 != q.1) = false := by simp
      have e2 : (q.2 != q.2) = false := by simp
      clear hq hn
      go_wp2_with fail
      go_quiet (fail)
      go_wp2_with fail
      go_roundw
      case rel => exact ⟨k + 1, by omega, by go_num, HA.out, HB2.out, HB.out.trans ⟨rfl, rfl, rfl, Nat.le_refl _, fun _ _ => rfl⟩⟩
      case measure => simp [intOf]; omega
    · have : k = n := by omega
      subst this
      go_wp2_with fail
      go_ret
      exact ⟨rfl, HB.out⟩

/-- The tests of the example. -/
def exT : List T := [⟨[0, 0, 0, 0], 0, 6⟩, ⟨[0, 0, 0, 0], 0, 7⟩]
theorem exT_0 : vpt exP exT = 0 := by decide
theorem exT_1 : scL exP exT = [(1, 2), (1, 2)] := by
  have r : runE exP [0, 0, 0, 0] = [6, 0, 0, 0] := by unfold runE; rw [ex_run]
  have d : doneA exP [0, 0, 0, 0] = [0, 1] := by unfold doneA runS; rw [if_pos (exTr _ rfl (by decide)), ex_run]; decide
  have p1 : pas exP ⟨[0, 0, 0, 0], 0, 6⟩ = true := by unfold pas endP; simp only; rw [r]; rfl
  have p2 : pas exP ⟨[0, 0, 0, 0], 0, 7⟩ = false := by unfold pas endP; simp only; rw [r]; rfl
  have w : rowL exP [0, 0, 0, 0] = [1, 1] := by unfold rowL; rw [d]; rfl
  have c1 : cnt exP exT 1 = ([0, 0], [1, 1], 0) := by
    rw [cnt_yes (t := ⟨[0, 0, 0, 0], 0, 6⟩) rfl p1]
    simp only [w]
    rfl
  have c2 : cnt exP exT 2 = ([1, 1], [1, 1], 1) := by
    rw [cnt_no (t := ⟨[0, 0, 0, 0], 0, 7⟩) rfl p2, c1]
    simp only [w]
    rfl
  have q : ∀ i, i < 2 → scQ exP exT i = (1, 2) := by
    intro i hi
    have h : i = 0 ∨ i = 1 := by omega
    unfold scQ scN scD
    rw [show exT.length = 2 from rfl, c2]
    rcases h with rfl | rfl <;> decide
  show (((List.replicate 2 ((0, 0) : Int × Int)).set 0 (scQ exP exT 0)).set 1 (scQ exP exT 1)) = _
  rw [q 0 (by omega), q 1 (by omega)]
  rfl
theorem exB_0 : vcon [0, 0, 0, 0] [1, 0, 0, 2] 3 0 1 = 0 := by decide
theorem exB_1 : boxN [0, 0, 0, 0] [1, 0, 0, 2] 3 0 1 = 6 := by decide

end Go.Proofs.Ytndmjenfgggfbaa
