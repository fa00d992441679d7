/- Reads and Writes, of the code and of the document's answers: contracts. -/
import Derived.Test.YtmideaancmpafaaLineA
set_option linter.unusedVariables false
set_option linter.unusedSimpArgs false
namespace Go.Proofs.Ytmideaancmpafaa
open Go.RowKit Tinker

/-- What Reads answers. -/
def rdA (l : L) : List Int := if isLn l then plc (rd l) else []
/-- The register of Writes, and whether there is one. -/
def wrN (l : L) : Int := if isLn l && Tinker.wr l then l.to else 0
def wrB (l : L) : Bool := isLn l && Tinker.wr l

set_option maxRecDepth 100000 in
set_option maxHeartbeats 1000000 in
theorem reads_A (l : L) (w : World) : Calls Try.prog 31 #[lv l] w (GivesIntsE (rdA l) (vl l) w) := by
  have HV := Lib.hid (fun w => validateLine_any l w)
  cases hv : isLn l
  · have H1 := Lib.hid (show vl l = 1 by unfold vl; rw [hv]; rfl)
    have H2 := Lib.hid (show rdA l = [] by unfold rdA; rw [hv]; rfl)
    rw [H1.out] at HV ⊢
    rw [H2.out]
    unfold lv at HV ⊢
    clear hv
    go_enter Try.func31, Try.ntmps31
    go_wp2_with fail
    refine (HV.out _).mono ?_
    rintro e w1 ⟨rfl, hB⟩
    go_wp2_with fail
    go_ret2
    exact givesIntsE_nil (((Below.refl _ _).alloc (Nat.le_refl _) _).trans (hB.mono (by simp)))
  · have H1 := Lib.hid (show vl l = 0 by unfold vl; rw [hv]; rfl)
    have H2 := Lib.hid (show rdA l = plc (rd l) by unfold rdA; rw [hv]; rfl)
    have HR := Lib.hid (fun w => reads_any l w hv)
    rw [H1.out] at HV ⊢
    rw [H2.out]
    unfold lv at HV HR ⊢
    have HL := Lib.hid (rd_length l)
    clear hv
    go_enter Try.func31, Try.ntmps31
    go_wp2_with fail
    refine (HV.out _).mono ?_
    rintro e w1 ⟨rfl, hB⟩
    have hb : (w1.heap[w.heap.size]? = some (.cells #[.int .i64 l.op, .int .i64 l.to, .int .i64 l.a, .int .i64 l.b] 40 (0, 0))) := hp_below (hp_new rfl) hB (by simp)
    have a0 := hp_cell hb (j := 0) (by rfl)
    have a1 := hp_cell hb (j := 1) (by rfl)
    have a2 := hp_cell hb (j := 2) (by rfl)
    have a3 := hp_cell hb (j := 3) (by rfl)
    have hB1 : Below w.heap.size w w1 := ((Below.refl _ _).alloc (Nat.le_refl _) _).trans (hB.mono (by simp))
    clear hb hB
    go_wp2_with fail
    refine (HR.out _).mono ?_
    rintro e w2 ⟨rfl, hB2⟩
    have hB3 := hB1.trans (hB2.mono hB1.size)
    clear a0 a1 a2 a3
    go_wp2_with (refine wpList_store_row rfl 93 (.tmp 5) (.tmp 12) rfl _ _ rfl rfl 93 _ (hp_new rfl) (info_bv4 HL.out) (by rw [bv_size, HL.out]; rfl) (bv_one _) ?_)
    have HC := Lib.hid (hp_row_same (cs := bv (rd l)) (hp_new (w := w2) (o := .cells (bv [false, false, false, false]) 93) rfl))
    have hB4 : Below w.heap.size w ((w2.alloc (.cells (bv [false, false, false, false]) 93)).setRow w2.heap.size (bv (rd l))) := below_setRow (hB3.alloc hB3.size _) hB3.size _
    have HP := Lib.hid (places_any w2.heap.size 0 4 (rd l) _ (fun j n hj => by rw [Nat.zero_add]; have h := hp_cell HC.out (bv_get (rd l) j (List.getElem?_eq_some_iff.1 hj).1); rwa [getD_of_get hj] at h) (hp_lt HC.out) (by rw [HL.out]; omega))
    rw [HL.out] at HP
    refine HP.out.mono ?_
    intro e w4 hG
    obtain ⟨a', c', rfl, hown, hB7⟩ := hG.wide hB4
    have HO := Lib.hid hown
    clear hown hG
    go_wp2_with fail
    go_ret2
    exact ⟨a', c', rfl, HO.out, hB7⟩

theorem ret3 {a : Int} {b : Bool} {c a' : Int} {b' : Bool} {c' : Int} (h1 : a = a') (h2 : b = b') (h3 : c = c') : Ending.returned (.tuple #[.int .i64 a, .bool b, .int .i64 c]) = .returned (.tuple #[.int .i64 a', .bool b', .int .i64 c']) := by rw [h1, h2, h3]

set_option maxRecDepth 100000 in
set_option maxHeartbeats 1000000 in
theorem writes_A (l : L) (w : World) : Calls Try.prog 30 #[lv l] w fun e w' => e = .returned (.tuple #[.int .i64 (wrN l), .bool (wrB l), .int .i64 (vl l)]) ∧ Below w.heap.size w w' := by
  have HV := Lib.hid (fun w => validateLine_any l w)
  cases hv : isLn l
  · have H1 := Lib.hid (show vl l = 1 by unfold vl; rw [hv]; rfl)
    have H2 := Lib.hid (show wrN l = 0 by unfold wrN; rw [hv]; rfl)
    have H3 := Lib.hid (show wrB l = false by unfold wrB; rw [hv]; rfl)
    rw [H1.out] at HV ⊢
    rw [H2.out, H3.out]
    unfold lv at HV ⊢
    clear hv
    go_enter Try.func30, Try.ntmps30
    go_wp2_with fail
    refine (HV.out _).mono ?_
    rintro e w1 ⟨rfl, hB⟩
    go_wp2_with fail
    go_ret3
    exact ⟨rfl, ((Below.refl _ _).alloc (Nat.le_refl _) _).trans (hB.mono (by simp))⟩
  · have H1 := Lib.hid (show vl l = 0 by unfold vl; rw [hv]; rfl)
    have HR := Lib.hid (fun w => writes_any l w hv)
    rw [H1.out] at HV ⊢
    unfold lv at HV HR ⊢
    cases hw : Tinker.wr l
    · have H2 := Lib.hid (show wrN l = 0 by unfold wrN; rw [hv, hw]; rfl)
      have H3 := Lib.hid (show wrB l = false by unfold wrB; rw [hv, hw]; rfl)
      rw [H2.out, H3.out]
      rw [hw] at HR
      clear hv hw
      go_enter Try.func30, Try.ntmps30
      go_wp2_with fail
      refine (HV.out _).mono ?_
      rintro e w1 ⟨rfl, hB⟩
      have hb : (w1.heap[w.heap.size]? = some (.cells #[.int .i64 l.op, .int .i64 l.to, .int .i64 l.a, .int .i64 l.b] 40 (0, 0))) := hp_below (hp_new rfl) hB (by simp)
      have a0 := hp_cell hb (j := 0) (by rfl)
      have a1 := hp_cell hb (j := 1) (by rfl)
      have a2 := hp_cell hb (j := 2) (by rfl)
      have a3 := hp_cell hb (j := 3) (by rfl)
      have hB1 : Below w.heap.size w w1 := ((Below.refl _ _).alloc (Nat.le_refl _) _).trans (hB.mono (by simp))
      clear hb hB
      go_wp2_with fail
      refine (HR.out _).mono ?_
      rintro e w2 ⟨rfl, hB2⟩
      clear a0 a1 a2 a3
      go_wp2_with fail
      go_ret3
      exact ⟨rfl, hB1.trans (hB2.mono hB1.size)⟩
    · have H2 := Lib.hid (show wrN l = l.to by unfold wrN; rw [hv, hw]; rfl)
      have H3 := Lib.hid (show wrB l = true by unfold wrB; rw [hv, hw]; rfl)
      rw [H2.out, H3.out]
      rw [hw] at HR
      clear hv hw
      go_enter Try.func30, Try.ntmps30
      go_wp2_with fail
      refine (HV.out _).mono ?_
      rintro e w1 ⟨rfl, hB⟩
      have hb : (w1.heap[w.heap.size]? = some (.cells #[.int .i64 l.op, .int .i64 l.to, .int .i64 l.a, .int .i64 l.b] 40 (0, 0))) := hp_below (hp_new rfl) hB (by simp)
      have a0 := hp_cell hb (j := 0) (by rfl)
      have a1 := hp_cell hb (j := 1) (by rfl)
      have a2 := hp_cell hb (j := 2) (by rfl)
      have a3 := hp_cell hb (j := 3) (by rfl)
      have HBL := Lib.hid hb
      have hB1 : Below w.heap.size w w1 := ((Below.refl _ _).alloc (Nat.le_refl _) _).trans (hB.mono (by simp))
      clear hb hB
      go_wp2_with fail
      refine (HR.out _).mono ?_
      rintro e w2 ⟨rfl, hB2⟩
      have b1 := hp_cell (hp_below HBL.out hB2 (hp_lt HBL.out)) (j := 1) (by rfl)
      clear a0 a1 a2 a3
      go_wp2_with fail
      go_ret3
      exact ⟨rfl, hB1.trans (hB2.mono hB1.size)⟩

set_option maxHeartbeats 400000 in
theorem rWrites_any (l : L) (w : World) : Calls Try.prog 74 #[lv l] w fun e w' => e = .returned (.bool (Tinker.wr l)) ∧ Below w.heap.size w w' := by
  unfold lv
  by_cases h0 : l.op = 0
  · have e0 : (l.op != 0) = false := by simp [h0]
    have e1 : (l.op == 0) = true := by simp [h0]
    have hw : Tinker.wr l = false := by unfold Tinker.wr; rw [e0]; rfl
    rw [hw]
    clear h0 hw
    go_enter Try.func74, Try.ntmps74
    go_wp2_with fail
    go_ret
    exact ⟨rfl, (Below.refl _ _).alloc (Nat.le_refl _) _⟩
  · have e0 : (l.op != 0) = true := by simpa using h0
    have e1 : (l.op == 0) = false := by simpa using h0
    have hw : Tinker.wr l = (l.op != 7) := by unfold Tinker.wr; rw [e0]; rfl
    rw [hw]
    clear h0 hw
    go_enter Try.func74, Try.ntmps74
    go_wp2_with fail
    go_ret
    exact ⟨rfl, (Below.refl _ _).alloc (Nat.le_refl _) _⟩

set_option maxHeartbeats 400000 in
theorem rValidateLine_any (l : L) (w : World) : Calls Try.prog 35 #[lv l] w fun e w' => e = .returned (.int .i64 (vl l)) ∧ Below w.heap.size w w' := by
  have H := Lib.hid (fun w => rIsLine_any l w)
  unfold lv at H ⊢
  cases hv : isLn l
  · have HV := Lib.hid (show vl l = 1 by unfold vl; rw [hv]; rfl)
    rw [HV.out]
    rw [hv] at H
    clear hv
    go_enter Try.func35, Try.ntmps35
    go_wp2_with fail
    refine (H.out _).mono ?_
    rintro e w1 ⟨rfl, hB⟩
    go_wp2_with fail
    go_ret
    exact ⟨rfl, ((Below.refl _ _).alloc (Nat.le_refl _) _).trans (hB.mono (by simp))⟩
  · have HV := Lib.hid (show vl l = 0 by unfold vl; rw [hv]; rfl)
    rw [HV.out]
    rw [hv] at H
    clear hv
    go_enter Try.func35, Try.ntmps35
    go_wp2_with fail
    refine (H.out _).mono ?_
    rintro e w1 ⟨rfl, hB⟩
    go_wp2_with fail
    go_ret
    exact ⟨rfl, ((Below.refl _ _).alloc (Nat.le_refl _) _).trans (hB.mono (by simp))⟩

end Go.Proofs.Ytmideaancmpafaa
