/- SeekNears: the walk. -/
import Derived.Test.YtfclfmloceddfaaGreatNear
set_option linter.unusedVariables false
set_option linter.unusedSimpArgs false
namespace Go.Proofs.YtfclfmloceddfaaGreat
open Go.RowKit Tinker

theorem same_1 : nrB ⟨1, 0, 3, 0⟩ ⟨1, 2, 3, 0⟩ = true ∧ nrC ⟨1, 0, 3, 0⟩ ⟨1, 2, 3, 0⟩ = 0 := by decide +kernel
theorem same_2 : nrB ⟨1, 0, 3, 0⟩ ⟨1, 0, 5, 0⟩ = false ∧ nrC ⟨1, 0, 3, 0⟩ ⟨1, 0, 5, 0⟩ = 0 := by decide +kernel
set_option maxHeartbeats 1000000 in
theorem same5_any (w : World) : Calls Tryz.prog 7 #[] w fun e w' => e = .returned (.bool true) ∧ Below w.heap.size w w' := by
  have H1 := Lib.hid (fun w => near_any ⟨1, 0, 3, 0⟩ ⟨1, 2, 3, 0⟩ w)
  have H2 := Lib.hid (fun w => near_any ⟨1, 0, 3, 0⟩ ⟨1, 0, 5, 0⟩ w)
  rw [same_1.1, same_1.2] at H1
  rw [same_2.1, same_2.2] at H2
  unfold lv at H1 H2
  go_enter Tryz.func7, Tryz.ntmps7
  go_wp2_with fail
  refine (H1.out _).mono ?_
  rintro e w1 ⟨rfl, hB⟩
  have HB1 := Lib.hid hB
  clear hB
  go_wp2_with fail
  refine (H2.out _).mono ?_
  rintro e w2 ⟨rfl, hB⟩
  have HB2 := Lib.hid (HB1.out.trans (hB.mono HB1.out.size))
  clear hB
  go_wp2_with fail
  go_ret
  exact ⟨rfl, HB2.out⟩

theorem nrC_comm (l m : L) : nrC m l = nrC l m := by
  unfold nrC vl fe
  cases isLn l <;> cases isLn m <;> rfl
theorem eqI_comm (a b : Int) : (a == b) = (b == a) := by rw [Bool.eq_iff_iff]; simp; exact ⟨fun h => h.symm, fun h => h.symm⟩
theorem neI_comm (a b : Int) : (a != b) = (b != a) := by unfold bne; rw [eqI_comm]
theorem nearB_comm {l m : L} (h1 : l.op ≠ 0) (h2 : m.op ≠ 0) : nearB m l = nearB l m := by
  have z1 : (l.op == 0) = false := by simpa using h1
  have z2 : (m.op == 0) = false := by simpa using h2
  unfold nearB
  rw [eqL_comm m l, dsN_comm m l, z1, z2]
  cases eqL l m
  · by_cases he : m.op = l.op
    · have e1 : (m.op != l.op) = false := by simpa using he
      have e2 : (l.op != m.op) = false := by simpa using he.symm
      rw [e1, e2, he, eqI_comm m.to l.to, eqI_comm m.a l.b, eqI_comm m.b l.a, Bool.and_comm (l.b == m.a) (l.a == m.b), neI_comm m.a l.a, neI_comm m.to l.to, Bool.or_comm (m.a - l.a == 1), Bool.or_comm (m.to - l.to == 1)]
    · have e1 : (m.op != l.op) = true := by simpa using he
      have e2 : (l.op != m.op) = true := by simpa using fun h : l.op = m.op => he h.symm
      rw [e1, e2]
      cases mixB l.op <;> cases mixB m.op <;> simp
  · rfl
theorem nrB_0 {l m : L} (h : l.op = 0) : nrB l m = false := by
  unfold nrB nearB
  rw [h]
  simp

end Go.Proofs.YtfclfmloceddfaaGreat
