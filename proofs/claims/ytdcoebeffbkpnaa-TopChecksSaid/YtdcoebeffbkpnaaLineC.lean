/- Several texts in one. -/
import Derived.Test.YtdcoebeffbkpnaaRunC
import Derived.Test.YtdcoebeffbkpnaaSliceC
/- ValidateLine, Reads, Writes, and their answers of the document: contracts. -/
set_option linter.unusedVariables false
set_option linter.unusedSimpArgs false
namespace Go.Proofs.Ytdcoebeffbkpnaa
open Go.RowKit Tinker

/-- The code of a line. -/
def vl (l : L) : Int := if isLn l then 0 else 1

set_option maxHeartbeats 400000 in
theorem validateLine_any (l : L) (w : World) : Calls Try.prog 111 #[lv l] w fun e w' => e = .returned (.int .i64 (vl l)) ∧ Below w.heap.size w w' := by
  have H := Lib.hid (fun w => isLine_any l w)
  unfold lv at H ⊢
  cases hv : isLn l
  · have HV := Lib.hid (show vl l = 1 by unfold vl; rw [hv]; rfl)
    rw [HV.out]
    rw [hv] at H
    clear hv
    go_enter Try.func111, Try.ntmps111
    go_wp2_with fail
    refine (H.out _).mono ?_
    rintro e w1 ⟨rfl, hB⟩
    go_wp2_with fail
    go_ret
    exact ⟨rfl, ((Below.refl _ _).alloc (Nat.le_refl _) _).trans (hB.mono (by simp))⟩
  · have HV := Lib.hid (show vl l = 0 by unfold vl; rw [hv]; rfl)
    rw [HV.out]
    rw [hv] at H
    clear hv
    go_enter Try.func111, Try.ntmps111
    go_wp2_with fail
    refine (H.out _).mono ?_
    rintro e w1 ⟨rfl, hB⟩
    go_wp2_with fail
    go_ret
    exact ⟨rfl, ((Below.refl _ _).alloc (Nat.le_refl _) _).trans (hB.mono (by simp))⟩

theorem isLn_0 (td a b : Int) : isLn ⟨0, td, a, b⟩ = (td == 0 && (a == 0 && b == 0)) := by simp [isLn, Bool.and_assoc]
theorem isLn_1 (td a b : Int) : isLn ⟨1, td, a, b⟩ = (isReg td && (btw a (-9) 9 && b == 0)) := by simp [isLn, Bool.and_assoc]
theorem isLn_2 (td a b : Int) : isLn ⟨2, td, a, b⟩ = (isReg td && (isReg a && b == 0)) := by simp [isLn, Bool.and_assoc]
theorem isLn_36 (op td a b : Int) (h1 : 3 ≤ op) (h2 : op ≤ 6) : isLn ⟨op, td, a, b⟩ = (isReg td && (isReg a && isReg b)) := by
  unfold isLn
  rw [if_neg (by show ¬ op = 0; omega), if_neg (by show ¬ op = 1; omega), if_neg (by show ¬ op = 2; omega), if_pos ⟨h1, h2⟩]
  simp [Bool.and_assoc]
theorem isLn_7 (td a b : Int) : isLn ⟨7, td, a, b⟩ = (btw td 1 8 && (isReg a && isReg b)) := by simp [isLn, Bool.and_assoc]

end Go.Proofs.Ytdcoebeffbkpnaa

/- Reads and Writes, of the code and of the document's answers: contracts. -/
set_option linter.unusedVariables false
set_option linter.unusedSimpArgs false
namespace Go.Proofs.Ytdcoebeffbkpnaa
open Go.RowKit Tinker

/-- What Reads answers. -/
def rdA (l : L) : List Int := if isLn l then plc (rd l) else []
/-- The register of Writes, and whether there is one. -/
def wrN (l : L) : Int := if isLn l && Tinker.wr l then l.to else 0
def wrB (l : L) : Bool := isLn l && Tinker.wr l

theorem ret3 {a : Int} {b : Bool} {c a' : Int} {b' : Bool} {c' : Int} (h1 : a = a') (h2 : b = b') (h3 : c = c') : Ending.returned (.tuple #[.int .i64 a, .bool b, .int .i64 c]) = .returned (.tuple #[.int .i64 a', .bool b', .int .i64 c']) := by rw [h1, h2, h3]

set_option maxRecDepth 100000 in
set_option maxHeartbeats 1000000 in
theorem writes_A (l : L) (w : World) : Calls Try.prog 93 #[lv l] w fun e w' => e = .returned (.tuple #[.int .i64 (wrN l), .bool (wrB l), .int .i64 (vl l)]) ∧ Below w.heap.size w w' := by
  have HV := Lib.hid (fun w => validateLine_any l w)
  cases hv : isLn l
  · have H1 := Lib.hid (show vl l = 1 by unfold vl; rw [hv]; rfl)
    have H2 := Lib.hid (show wrN l = 0 by unfold wrN; rw [hv]; rfl)
    have H3 := Lib.hid (show wrB l = false by unfold wrB; rw [hv]; rfl)
    rw [H1.out] at HV ⊢
    rw [H2.out, H3.out]
    unfold lv at HV ⊢
    clear hv
    go_enter Try.func93, Try.ntmps93
    go_wp2_with fail
    refine (HV.out _).mono ?_
    rintro e w1 ⟨rfl, hB⟩
    go_wp2_with fail
    go_ret3
    exact ⟨rfl, ((Below.refl _ _).alloc (Nat.le_refl _) _).trans (hB.mono (by simp))⟩
  · have H1 := Lib.hid (show vl l = 0 by unfold vl; rw [hv]; rfl)
    have HR := Lib.hid (fun w => writes_any l w hv)
    rw [H1.out] at HV ⊢
    unfold lv at HV HR ⊢
    cases hw : Tinker.wr l
    · have H2 := Lib.hid (show wrN l = 0 by unfold wrN; rw [hv, hw]; rfl)
      have H3 := Lib.hid (show wrB l = false by unfold wrB; rw [hv, hw]; rfl)
      rw [H2.out, H3.out]
      rw [hw] at HR
      clear hv hw
      go_enter Try.func93, Try.ntmps93
      go_wp2_with fail
      refine (HV.out _).mono ?_
      rintro e w1 ⟨rfl, hB⟩
      have hb : (w1.heap[w.heap.size]? = some (.cells #[.int .i64 l.op, .int .i64 l.to, .int .i64 l.a, .int .i64 l.b] 61 (0, 0))) := hp_below (hp_new rfl) hB (by simp)
      have a0 := hp_cell hb (j := 0) (by rfl)
      have a1 := hp_cell hb (j := 1) (by rfl)
      have a2 := hp_cell hb (j := 2) (by rfl)
      have a3 := hp_cell hb (j := 3) (by rfl)
      have hB1 : Below w.heap.size w w1 := ((Below.refl _ _).alloc (Nat.le_refl _) _).trans (hB.mono (by simp))
      clear hb hB
      go_wp2_with fail
      refine (HR.out _).mono ?_
      rintro e w2 ⟨rfl, hB2⟩
      clear a0 a1 a2 a3
      go_wp2_with fail
      go_ret3
      exact ⟨rfl, hB1.trans (hB2.mono hB1.size)⟩
    · have H2 := Lib.hid (show wrN l = l.to by unfold wrN; rw [hv, hw]; rfl)
      have H3 := Lib.hid (show wrB l = true by unfold wrB; rw [hv, hw]; rfl)
      rw [H2.out, H3.out]
      rw [hw] at HR
      clear hv hw
      go_enter Try.func93, Try.ntmps93
      go_wp2_with fail
      refine (HV.out _).mono ?_
      rintro e w1 ⟨rfl, hB⟩
      have hb : (w1.heap[w.heap.size]? = some (.cells #[.int .i64 l.op, .int .i64 l.to, .int .i64 l.a, .int .i64 l.b] 61 (0, 0))) := hp_below (hp_new rfl) hB (by simp)
      have a0 := hp_cell hb (j := 0) (by rfl)
      have a1 := hp_cell hb (j := 1) (by rfl)
      have a2 := hp_cell hb (j := 2) (by rfl)
      have a3 := hp_cell hb (j := 3) (by rfl)
      have HBL := Lib.hid hb
      have hB1 : Below w.heap.size w w1 := ((Below.refl _ _).alloc (Nat.le_refl _) _).trans (hB.mono (by simp))
      clear hb hB
      go_wp2_with fail
      refine (HR.out _).mono ?_
      rintro e w2 ⟨rfl, hB2⟩
      have b1 := hp_cell (hp_below HBL.out hB2 (hp_lt HBL.out)) (j := 1) (by rfl)
      clear a0 a1 a2 a3
      go_wp2_with fail
      go_ret3
      exact ⟨rfl, hB1.trans (hB2.mono hB1.size)⟩

end Go.Proofs.Ytdcoebeffbkpnaa

/- reads, set, Reads, Writes of the document's answers: contracts. -/
set_option linter.unusedVariables false
set_option linter.unusedSimpArgs false
namespace Go.Proofs.Ytdcoebeffbkpnaa
open Go.RowKit Tinker

theorem mk4 (w : World) : (Instr.makeSlice 126 (.int .i64 4) (.int .i64 4)).run Try.prog w = .ok (.slice (some ⟨w.heap.size, 0, none⟩) 4 4) (w.alloc (.cells #[.bool false, .bool false, .bool false, .bool false] 4)) := by kernel_rfl

/-- A new slice of bools. -/
def GivesBools (n : Nat) (bs : List Bool) (w : World) (e : Ending) (w' : World) : Prop := ∃ b, e = .returned (.slice (some ⟨b, 0, none⟩) n n) ∧ w'.heap[b]? = some (.cells (bv bs) 4 (0, 0)) ∧ w.heap.size ≤ b ∧ Below w.heap.size w w'

end Go.Proofs.Ytdcoebeffbkpnaa
