/- ValidateLine, Reads, Writes, and their answers of the document: contracts. -/
import Derived.Test.YtmideaancmpafacRunC
import Derived.Test.YtmideaancmpafacSliceA
set_option linter.unusedVariables false
set_option linter.unusedSimpArgs false
namespace Go.Proofs.Ytmideaancmpafac
open Go.RowKit Tinker

/-- The code of a line. -/
def vl (l : L) : Int := if isLn l then 0 else 1

set_option maxHeartbeats 400000 in
theorem validateLine_any (l : L) (w : World) : Calls Try.prog 50 #[lv l] w fun e w' => e = .returned (.int .i64 (vl l)) ∧ Below w.heap.size w w' := by
  have H := Lib.hid (fun w => isLine_any l w)
  unfold lv at H ⊢
  cases hv : isLn l
  · have HV := Lib.hid (show vl l = 1 by unfold vl; rw [hv]; rfl)
    rw [HV.out]
    rw [hv] at H
    clear hv
    go_enter Try.func50, Try.ntmps50
    go_wp2_with fail
    refine (H.out _).mono ?_
    rintro e w1 ⟨rfl, hB⟩
    go_wp2_with fail
    go_ret
    exact ⟨rfl, ((Below.refl _ _).alloc (Nat.le_refl _) _).trans (hB.mono (by simp))⟩
  · have HV := Lib.hid (show vl l = 0 by unfold vl; rw [hv]; rfl)
    rw [HV.out]
    rw [hv] at H
    clear hv
    go_enter Try.func50, Try.ntmps50
    go_wp2_with fail
    refine (H.out _).mono ?_
    rintro e w1 ⟨rfl, hB⟩
    go_wp2_with fail
    go_ret
    exact ⟨rfl, ((Below.refl _ _).alloc (Nat.le_refl _) _).trans (hB.mono (by simp))⟩

theorem isLn_0 (td a b : Int) : isLn ⟨0, td, a, b⟩ = (td == 0 && (a == 0 && b == 0)) := by simp [isLn, Bool.and_assoc]
theorem isLn_1 (td a b : Int) : isLn ⟨1, td, a, b⟩ = (isReg td && (btw a (-9) 9 && b == 0)) := by simp [isLn, Bool.and_assoc]
theorem isLn_2 (td a b : Int) : isLn ⟨2, td, a, b⟩ = (isReg td && (isReg a && b == 0)) := by simp [isLn, Bool.and_assoc]
theorem isLn_36 (op td a b : Int) (h1 : 3 ≤ op) (h2 : op ≤ 6) : isLn ⟨op, td, a, b⟩ = (isReg td && (isReg a && isReg b)) := by
  unfold isLn
  rw [if_neg (by show ¬ op = 0; omega), if_neg (by show ¬ op = 1; omega), if_neg (by show ¬ op = 2; omega), if_pos ⟨h1, h2⟩]
  simp [Bool.and_assoc]
theorem isLn_7 (td a b : Int) : isLn ⟨7, td, a, b⟩ = (btw td 1 8 && (isReg a && isReg b)) := by simp [isLn, Bool.and_assoc]

end Go.Proofs.Ytmideaancmpafac
