/- Reads and Writes, of the code and of the document's answers: contracts. -/
import Derived.Test.YtmideaancmpafacLineA
set_option linter.unusedVariables false
set_option linter.unusedSimpArgs false
namespace Go.Proofs.Ytmideaancmpafac
open Go.RowKit Tinker

/-- What Reads answers. -/
def rdA (l : L) : List Int := if isLn l then plc (rd l) else []
/-- The register of Writes, and whether there is one. -/
def wrN (l : L) : Int := if isLn l && Tinker.wr l then l.to else 0
def wrB (l : L) : Bool := isLn l && Tinker.wr l

theorem ret3 {a : Int} {b : Bool} {c a' : Int} {b' : Bool} {c' : Int} (h1 : a = a') (h2 : b = b') (h3 : c = c') : Ending.returned (.tuple #[.int .i64 a, .bool b, .int .i64 c]) = .returned (.tuple #[.int .i64 a', .bool b', .int .i64 c']) := by rw [h1, h2, h3]

set_option maxRecDepth 100000 in
set_option maxHeartbeats 1000000 in
theorem writes_A (l : L) (w : World) : Calls Try.prog 17 #[lv l] w fun e w' => e = .returned (.tuple #[.int .i64 (wrN l), .bool (wrB l), .int .i64 (vl l)]) ∧ Below w.heap.size w w' := by
  have HV := Lib.hid (fun w => validateLine_any l w)
  cases hv : isLn l
  · have H1 := Lib.hid (show vl l = 1 by unfold vl; rw [hv]; rfl)
    have H2 := Lib.hid (show wrN l = 0 by unfold wrN; rw [hv]; rfl)
    have H3 := Lib.hid (show wrB l = false by unfold wrB; rw [hv]; rfl)
    rw [H1.out] at HV ⊢
    rw [H2.out, H3.out]
    unfold lv at HV ⊢
    clear hv
    go_enter Try.func17, Try.ntmps17
    go_wp2_with fail
    refine (HV.out _).mono ?_
    rintro e w1 ⟨rfl, hB⟩
    go_wp2_with fail
    go_ret3
    exact ⟨rfl, ((Below.refl _ _).alloc (Nat.le_refl _) _).trans (hB.mono (by simp))⟩
  · have H1 := Lib.hid (show vl l = 0 by unfold vl; rw [hv]; rfl)
    have HR := Lib.hid (fun w => writes_any l w hv)
    rw [H1.out] at HV ⊢
    unfold lv at HV HR ⊢
    cases hw : Tinker.wr l
    · have H2 := Lib.hid (show wrN l = 0 by unfold wrN; rw [hv, hw]; rfl)
      have H3 := Lib.hid (show wrB l = false by unfold wrB; rw [hv, hw]; rfl)
      rw [H2.out, H3.out]
      rw [hw] at HR
      clear hv hw
      go_enter Try.func17, Try.ntmps17
      go_wp2_with fail
      refine (HV.out _).mono ?_
      rintro e w1 ⟨rfl, hB⟩
      have hb : (w1.heap[w.heap.size]? = some (.cells #[.int .i64 l.op, .int .i64 l.to, .int .i64 l.a, .int .i64 l.b] 43 (0, 0))) := hp_below (hp_new rfl) hB (by simp)
      have a0 := hp_cell hb (j := 0) (by rfl)
      have a1 := hp_cell hb (j := 1) (by rfl)
      have a2 := hp_cell hb (j := 2) (by rfl)
      have a3 := hp_cell hb (j := 3) (by rfl)
      have hB1 : Below w.heap.size w w1 := ((Below.refl _ _).alloc (Nat.le_refl _) _).trans (hB.mono (by simp))
      clear hb hB
      go_wp2_with fail
      refine (HR.out _).mono ?_
      rintro e w2 ⟨rfl, hB2⟩
      clear a0 a1 a2 a3
      go_wp2_with fail
      go_ret3
      exact ⟨rfl, hB1.trans (hB2.mono hB1.size)⟩
    · have H2 := Lib.hid (show wrN l = l.to by unfold wrN; rw [hv, hw]; rfl)
      have H3 := Lib.hid (show wrB l = true by unfold wrB; rw [hv, hw]; rfl)
      rw [H2.out, H3.out]
      rw [hw] at HR
      clear hv hw
      go_enter Try.func17, Try.ntmps17
      go_wp2_with fail
      refine (HV.out _).mono ?_
      rintro e w1 ⟨rfl, hB⟩
      have hb : (w1.heap[w.heap.size]? = some (.cells #[.int .i64 l.op, .int .i64 l.to, .int .i64 l.a, .int .i64 l.b] 43 (0, 0))) := hp_below (hp_new rfl) hB (by simp)
      have a0 := hp_cell hb (j := 0) (by rfl)
      have a1 := hp_cell hb (j := 1) (by rfl)
      have a2 := hp_cell hb (j := 2) (by rfl)
      have a3 := hp_cell hb (j := 3) (by rfl)
      have HBL := Lib.hid hb
      have hB1 : Below w.heap.size w w1 := ((Below.refl _ _).alloc (Nat.le_refl _) _).trans (hB.mono (by simp))
      clear hb hB
      go_wp2_with fail
      refine (HR.out _).mono ?_
      rintro e w2 ⟨rfl, hB2⟩
      have b1 := hp_cell (hp_below HBL.out hB2 (hp_lt HBL.out)) (j := 1) (by rfl)
      clear a0 a1 a2 a3
      go_wp2_with fail
      go_ret3
      exact ⟨rfl, hB1.trans (hB2.mono hB1.size)⟩

end Go.Proofs.Ytmideaancmpafac
