/- Several texts in one. -/
import Derived.Test.YtikblaebfpdngaaIn
import Derived.Laws.EntriesVeiled
import Derived.Deep.RegionHeld3
import Derived.Deep.DeepCutAuto
import Derived.Laws.CopyOwn
/- isLine, writes, reads: contracts. -/
set_option linter.unusedVariables false
set_option linter.unusedSimpArgs false
namespace Go.Proofs.Ytikblaebfpdngaa
open Go.RowKit Tinker

/-- The row of the table of operations for one Op. -/
def OpRow (op k0 k1 k2 : Int) (f g : Nat) : Prop := ∀ w, (Instr.index 108 (.agg opsT) (.int .i64 op)).run Try.prog w = .ok (.agg #[.int .i64 k0, .int .i64 k1, .int .i64 k2, .func (.func f) #[] #[], .func (.func g) #[] #[]]) w

theorem row0 : OpRow 0 0 0 0 98 99 := fun _ => by kernel_rfl
theorem row1 : OpRow 1 1 2 0 98 99 := fun _ => by kernel_rfl
theorem row2 : OpRow 2 1 1 0 98 99 := fun _ => by kernel_rfl
theorem row3 : OpRow 3 1 1 1 100 99 := fun _ => by kernel_rfl
theorem row4 : OpRow 4 1 1 1 101 99 := fun _ => by kernel_rfl
theorem row5 : OpRow 5 1 1 1 102 99 := fun _ => by kernel_rfl
theorem row6 : OpRow 6 1 1 1 103 99 := fun _ => by kernel_rfl
theorem row7 : OpRow 7 3 1 1 98 104 := fun _ => by kernel_rfl

theorem isLn_out {l : L} (h : l.op < 0 ∨ 7 < l.op) : isLn l = false := by
  unfold isLn; rw [if_neg (by omega), if_neg (by omega), if_neg (by omega), if_neg (by omega), if_neg (by omega)]

set_option maxHeartbeats 400000 in
theorem isLine_out (op td a b : Int) (w : World) (h : op < 0 ∨ 7 < op) :
    Calls Try.prog 67 #[.agg #[.int .i64 op, .int .i64 td, .int .i64 a, .int .i64 b]] w fun e w' => e = .returned (.bool false) ∧ Below w.heap.size w w' := by
  have hb : btw op 0 7 = false := btw_false h
  clear h
  go_enter Try.func67, Try.ntmps67
  go_wp2_with (go_at_call 40; refine (isBetween_any _ _ _ _).mono ?_; rintro e w' ⟨rfl, rfl⟩)
  go_ret
  exact ⟨rfl, (Below.refl _ _).alloc (Nat.le_refl _) _⟩

set_option maxHeartbeats 1000000 in
theorem isLine_in (op td a b k0 k1 k2 : Int) (f g : Nat) (w : World) (ho : 0 ≤ op ∧ op ≤ 7) (hr : OpRow op k0 k1 k2 f g) :
    Calls Try.prog 67 #[.agg #[.int .i64 op, .int .i64 td, .int .i64 a, .int .i64 b]] w fun e w' => e = .returned (.bool (allowsK k0 td && (allowsK k1 a && allowsK k2 b))) ∧ Below w.heap.size w w' := by
  have hb : btw op 0 7 = true := btw_true.2 ho
  unfold OpRow at hr
  clear ho
  go_enter Try.func67, Try.ntmps67
  go_upto_region 3 with (go_at_call 40; refine (isBetween_any _ _ _ _).mono ?_; rintro e w' ⟨rfl, rfl⟩)
  go_cut [3] (fun s wx => ∃ x : Nat, s = .pointer (some ⟨x, 0, none⟩) ∧ Below w.heap.size w wx ∧ wx.cell? ⟨x, 0, none⟩ = some (.int .i64 k0) ∧ wx.cell? ⟨x, 1, none⟩ = some (.int .i64 k1) ∧ wx.cell? ⟨x, 2, none⟩ = some (.int .i64 k2) ∧ wx.cell? ⟨w.heap.size, 1, none⟩ = some (.int .i64 td) ∧ wx.cell? ⟨w.heap.size, 2, none⟩ = some (.int .i64 a) ∧ wx.cell? ⟨w.heap.size, 3, none⟩ = some (.int .i64 b))
  case first =>
    go_region_with (go_at_call 86; refine (operations_any _).mono ?_; rintro e w' ⟨rfl, rfl⟩)
    all_goals go_wp2_with fail
    all_goals go_meet
    all_goals exact ⟨_, rfl, ((((Below.refl _ _).alloc (Nat.le_refl _) _).alloc (by simp) _).alloc (by simp; omega) _).drew, by go_simp, by go_simp, by go_simp, by go_simp, by go_simp, by go_simp⟩
  case rest =>
    obtain ⟨x, rfl, hB, h0, h1, h2, c1, c2, c3⟩ := hcut
    go_wp2_with (go_at_call 87; refine (allows_any _ _ _).mono ?_; rintro e w' ⟨rfl, rfl⟩)
    all_goals go_ret
    all_goals exact ⟨ret_bool (by simp [*]), hB⟩

theorem isLn_in {op td a b k0 k1 k2 : Int} (ho : 0 ≤ op ∧ op ≤ 7)
    (h : (op = 0 ∧ k0 = 0 ∧ k1 = 0 ∧ k2 = 0) ∨ (op = 1 ∧ k0 = 1 ∧ k1 = 2 ∧ k2 = 0) ∨ (op = 2 ∧ k0 = 1 ∧ k1 = 1 ∧ k2 = 0) ∨ (3 ≤ op ∧ op ≤ 6 ∧ k0 = 1 ∧ k1 = 1 ∧ k2 = 1) ∨ (op = 7 ∧ k0 = 3 ∧ k1 = 1 ∧ k2 = 1)) :
    (allowsK k0 td && (allowsK k1 a && allowsK k2 b)) = isLn ⟨op, td, a, b⟩ := by
  rcases h with ⟨rfl, rfl, rfl, rfl⟩ | ⟨rfl, rfl, rfl, rfl⟩ | ⟨rfl, rfl, rfl, rfl⟩ | ⟨h1, h2, rfl, rfl, rfl⟩ | ⟨rfl, rfl, rfl, rfl⟩
  · simp [isLn, allowsK, Bool.and_assoc]
  · simp [isLn, allowsK, Bool.and_assoc]
  · simp [isLn, allowsK, Bool.and_assoc]
  · unfold isLn
    rw [if_neg (by show ¬ op = 0; omega), if_neg (by show ¬ op = 1; omega), if_neg (by show ¬ op = 2; omega), if_pos ⟨h1, h2⟩]
    simp [allowsK, Bool.and_assoc]
  · simp [isLn, allowsK, Bool.and_assoc]

/-- The value of a line. -/
def lv (l : L) : Value := .agg #[.int .i64 l.op, .int .i64 l.to, .int .i64 l.a, .int .i64 l.b]

theorem row_of (op : Int) (ho : 0 ≤ op ∧ op ≤ 7) : ∃ k0 k1 k2 f g, OpRow op k0 k1 k2 f g ∧
    ((op = 0 ∧ k0 = 0 ∧ k1 = 0 ∧ k2 = 0) ∨ (op = 1 ∧ k0 = 1 ∧ k1 = 2 ∧ k2 = 0) ∨ (op = 2 ∧ k0 = 1 ∧ k1 = 1 ∧ k2 = 0) ∨ (3 ≤ op ∧ op ≤ 6 ∧ k0 = 1 ∧ k1 = 1 ∧ k2 = 1) ∨ (op = 7 ∧ k0 = 3 ∧ k1 = 1 ∧ k2 = 1)) := by
  have h : op = 0 ∨ op = 1 ∨ op = 2 ∨ op = 3 ∨ op = 4 ∨ op = 5 ∨ op = 6 ∨ op = 7 := by omega
  rcases h with rfl | rfl | rfl | rfl | rfl | rfl | rfl | rfl
  · exact ⟨_, _, _, _, _, row0, by simp⟩
  · exact ⟨_, _, _, _, _, row1, by simp⟩
  · exact ⟨_, _, _, _, _, row2, by simp⟩
  · exact ⟨_, _, _, _, _, row3, by simp⟩
  · exact ⟨_, _, _, _, _, row4, by simp⟩
  · exact ⟨_, _, _, _, _, row5, by simp⟩
  · exact ⟨_, _, _, _, _, row6, by simp⟩
  · exact ⟨_, _, _, _, _, row7, by simp⟩

theorem isLine_any (l : L) (w : World) :
    Calls Try.prog 67 #[lv l] w fun e w' => e = .returned (.bool (isLn l)) ∧ Below w.heap.size w w' := by
  by_cases h : l.op < 0 ∨ 7 < l.op
  · rw [isLn_out h]
    exact isLine_out l.op l.to l.a l.b w h
  · obtain ⟨k0, k1, k2, f, g, hr, hk⟩ := row_of l.op (by omega)
    have e := isLn_in (td := l.to) (a := l.a) (b := l.b) (by omega) hk
    have c := isLine_in l.op l.to l.a l.b k0 k1 k2 f g w (by omega) hr
    rw [e] at c
    exact c

end Go.Proofs.Ytikblaebfpdngaa

/- writes, reads: contracts. -/
set_option linter.unusedVariables false
set_option linter.unusedSimpArgs false
namespace Go.Proofs.Ytikblaebfpdngaa
open Go.RowKit Tinker

/-- The cells of a list of bools. -/
def bv (l : List Bool) : Array Value := (l.map Value.bool).toArray
theorem bv_size (l : List Bool) : (bv l).size = l.length := by simp [bv]
theorem bv_get (l : List Bool) (n : Nat) (h : n < l.length) : (bv l)[n]? = some (.bool (l.getD n false)) := by
  simp [bv, List.getD_eq_getElem?_getD, h]
theorem bv_set (l : List Bool) (n : Nat) (x : Bool) : (bv l).setIfInBounds n (.bool x) = bv (l.set n x) := by
  simp [bv, List.map_set]
theorem bv_one (l : List Bool) : (bv l).all (·.oneCell') = true := by
  rw [Array.all_eq_true_iff_forall_mem]
  intro v hv
  simp only [bv, List.mem_toArray, List.mem_map] at hv
  obtain ⟨x, _, rfl⟩ := hv
  rfl
theorem iv_set (l : List Int) (n : Nat) (x : Int) : (iv l).setIfInBounds n (.int .i64 x) = iv (l.set n x) := by
  simp [iv, List.map_set]
theorem iv_one (l : List Int) : (iv l).all (·.oneCell') = true := by
  rw [Array.all_eq_true_iff_forall_mem]
  intro v hv
  simp only [iv, List.mem_toArray, List.mem_map] at hv
  obtain ⟨x, _, rfl⟩ := hv
  rfl

end Go.Proofs.Ytikblaebfpdngaa
