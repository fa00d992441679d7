/- Several texts in one. -/
import Derived.Test.YtikblaebfpdngaaRows
import Derived.Test.YtikblaebfpdngaaPlain
import Derived.WalkKit
import Derived.WalkSpells
import Derived.WalkLawsBesides
import Derived.RegionTactic
import Derived.ChangeAlike
import Derived.Deep.RegionWith
import Derived.Outline
import Derived.Lib.Hide
import Derived.OwnWalk
import Derived.Deep.WholeRow
import Derived.Deep.MidRow
/- The smallest functions of package code: contracts. -/
set_option linter.unusedVariables false
set_option linter.unusedSimpArgs false
namespace Go.Proofs.Ytikblaebfpdngaa
open Go.RowKit Tinker

theorem ret_bool {a b : Bool} (h : a = b) : Ending.returned (.bool a) = .returned (.bool b) := by rw [h]
theorem ret_int {a b : Int} (h : a = b) : Ending.returned (.int .i64 a) = .returned (.int .i64 b) := by rw [h]

set_option maxHeartbeats 400000 in
theorem isBetween_any (n lo hi : Int) (w : World) :
    Calls Try.prog 40 #[.int .i64 n, .int .i64 lo, .int .i64 hi] w fun e w' => e = .returned (.bool (btw n lo hi)) ∧ w = w' := by
  go_enter Try.func40, Try.ntmps40
  go_wp2
  all_goals go_ret
  · exact ⟨ret_bool (by simp [btw, *]), rfl⟩
  · exact ⟨ret_bool (btw_false (.inl ‹_›)).symm, rfl⟩

set_option maxHeartbeats 400000 in
theorem first_any (a b : Int) (w : World) :
    Calls Try.prog 98 #[.int .i64 a, .int .i64 b] w fun e w' => e = .returned (.int .i64 a) ∧ w = w' := by
  go_enter Try.func98, Try.ntmps98
  go_wp2
  go_ret
  exact ⟨rfl, rfl⟩

set_option maxHeartbeats 400000 in
theorem sum_any (a b : Int) (w : World) (ha : -999 ≤ a ∧ a ≤ 999) (hb : -999 ≤ b ∧ b ≤ 999) :
    Calls Try.prog 100 #[.int .i64 a, .int .i64 b] w fun e w' => e = .returned (.int .i64 (a + b)) ∧ w = w' := by
  obtain ⟨ha1, ha2⟩ := ha
  obtain ⟨hb1, hb2⟩ := hb
  go_enter Try.func100, Try.ntmps100
  go_wp2
  go_ret
  exact ⟨rfl, rfl⟩

set_option maxHeartbeats 400000 in
theorem difference_any (a b : Int) (w : World) (ha : -999 ≤ a ∧ a ≤ 999) (hb : -999 ≤ b ∧ b ≤ 999) :
    Calls Try.prog 101 #[.int .i64 a, .int .i64 b] w fun e w' => e = .returned (.int .i64 (a - b)) ∧ w = w' := by
  obtain ⟨ha1, ha2⟩ := ha
  obtain ⟨hb1, hb2⟩ := hb
  go_enter Try.func101, Try.ntmps101
  go_wp2
  go_ret
  exact ⟨rfl, rfl⟩

set_option maxHeartbeats 400000 in
theorem smaller_any (a b : Int) (w : World) :
    Calls Try.prog 102 #[.int .i64 a, .int .i64 b] w fun e w' => e = .returned (.int .i64 (min a b)) ∧ w = w' := by
  by_cases h : b < a
  · rw [show min a b = b by omega]
    go_enter Try.func102, Try.ntmps102
    go_wp2
    go_ret
    exact ⟨rfl, rfl⟩
  · rw [show min a b = a by omega]
    go_enter Try.func102, Try.ntmps102
    go_wp2
    go_ret
    exact ⟨rfl, rfl⟩

set_option maxHeartbeats 400000 in
theorem greater_any (a b : Int) (w : World) :
    Calls Try.prog 103 #[.int .i64 a, .int .i64 b] w fun e w' => e = .returned (.int .i64 (max a b)) ∧ w = w' := by
  by_cases h : a < b
  · rw [show max a b = b by omega]
    go_enter Try.func103, Try.ntmps103
    go_wp2
    go_ret
    exact ⟨rfl, rfl⟩
  · rw [show max a b = a by omega]
    go_enter Try.func103, Try.ntmps103
    go_wp2
    go_ret
    exact ⟨rfl, rfl⟩

set_option maxHeartbeats 400000 in
theorem isBelow_any (a b : Int) (w : World) :
    Calls Try.prog 104 #[.int .i64 a, .int .i64 b] w fun e w' => e = .returned (.bool (decide (a < b))) ∧ w = w' := by
  go_enter Try.func104, Try.ntmps104
  go_wp2
  go_ret
  exact ⟨rfl, rfl⟩

set_option maxHeartbeats 400000 in
theorem never_any (a b : Int) (w : World) :
    Calls Try.prog 99 #[.int .i64 a, .int .i64 b] w fun e w' => e = .returned (.bool false) ∧ w = w' := by
  go_enter Try.func99, Try.ntmps99
  go_wp2
  go_ret
  exact ⟨rfl, rfl⟩

set_option maxHeartbeats 400000 in
theorem kIsRegister_any (n : Int) (w : World) :
    Calls Try.prog 105 #[.int .i64 n] w fun e w' => e = .returned (.bool (isReg n)) ∧ w = w' := by
  go_enter Try.func105, Try.ntmps105
  go_wp2_with (go_at_call 40; refine (isBetween_any _ _ _ _).mono ?_; rintro e w' ⟨rfl, rfl⟩)
  go_ret
  exact ⟨ret_bool (by simp [isReg]), rfl⟩

set_option maxHeartbeats 400000 in
theorem allows_any (k n : Int) (w : World) :
    Calls Try.prog 87 #[.int .i64 k, .int .i64 n] w fun e w' => e = .returned (.bool (allowsK k n)) ∧ w = w' := by
  by_cases h1 : k = 1
  · subst h1
    go_enter Try.func87, Try.ntmps87
    go_wp2_with (go_at_call 105; refine (kIsRegister_any _ _).mono ?_; rintro e w' ⟨rfl, rfl⟩)
    go_ret
    exact ⟨ret_bool (by simp [allowsK]), rfl⟩
  · by_cases h2 : k = 2
    · subst h2
      go_enter Try.func87, Try.ntmps87
      go_wp2_with (go_at_call 40; refine (isBetween_any _ _ _ _).mono ?_; rintro e w' ⟨rfl, rfl⟩)
      go_ret
      exact ⟨ret_bool (by simp [allowsK]), rfl⟩
    · by_cases h3 : k = 3
      · subst h3
        go_enter Try.func87, Try.ntmps87
        go_wp2_with (go_at_call 40; refine (isBetween_any _ _ _ _).mono ?_; rintro e w' ⟨rfl, rfl⟩)
        go_ret
        exact ⟨ret_bool (by simp [allowsK]), rfl⟩
      · have e1 : (k == 1) = false := by simpa using h1
        have e2 : (k == 2) = false := by simpa using h2
        have e3 : (k == 3) = false := by simpa using h3
        go_enter Try.func87, Try.ntmps87
        go_wp2
        go_ret
        exact ⟨ret_bool (by simp [allowsK, h1, h2, h3]), rfl⟩

end Go.Proofs.Ytikblaebfpdngaa

/- Kinds of numbers, and the table of operations: contracts. -/
set_option linter.unusedVariables false
set_option linter.unusedSimpArgs false
namespace Go.Proofs.Ytikblaebfpdngaa
open Go.RowKit Tinker

/-- The cells of a list of numbers. -/
def iv (s : List Int) : Array Value := (s.map (Value.int .i64)).toArray

theorem iv_size (s : List Int) : (iv s).size = s.length := by simp [iv]
theorem iv_get (s : List Int) (n : Int) (h : n.toNat < s.length) : (iv s)[n.toNat]? = some (.int .i64 (rg s n)) := by
  simp [iv, rg, List.getD_eq_getElem?_getD, h]
theorem iv_getN (s : List Int) (n : Nat) (h : n < s.length) : (iv s)[n]? = some (.int .i64 (s.getD n 0)) := by
  simp [iv, List.getD_eq_getElem?_getD, h]

/-- The table of operations: of each Op the three kinds and the two functions. -/
def opsT : Array Value :=
  #[.int .i64 0, .int .i64 0, .int .i64 0, .func (.func 98) #[] #[], .func (.func 99) #[] #[],
    .int .i64 1, .int .i64 2, .int .i64 0, .func (.func 98) #[] #[], .func (.func 99) #[] #[],
    .int .i64 1, .int .i64 1, .int .i64 0, .func (.func 98) #[] #[], .func (.func 99) #[] #[],
    .int .i64 1, .int .i64 1, .int .i64 1, .func (.func 100) #[] #[], .func (.func 99) #[] #[],
    .int .i64 1, .int .i64 1, .int .i64 1, .func (.func 101) #[] #[], .func (.func 99) #[] #[],
    .int .i64 1, .int .i64 1, .int .i64 1, .func (.func 102) #[] #[], .func (.func 99) #[] #[],
    .int .i64 1, .int .i64 1, .int .i64 1, .func (.func 103) #[] #[], .func (.func 99) #[] #[],
    .int .i64 3, .int .i64 1, .int .i64 1, .func (.func 98) #[] #[], .func (.func 104) #[] #[]]

/-- What block i holds, behind a new block, a draw, a store elsewhere. -/
theorem hp_new {w : World} {o : Obj} {i : Nat} (h : w.heap.size = i) : (w.alloc o).heap[i]? = some o := by subst h; exact heap_alloc_new w o
theorem hp_lt {w : World} {o : Obj} {i : Nat} (h : w.heap[i]? = some o) : i < w.heap.size := by
  rcases Nat.lt_or_ge i w.heap.size with hlt | hge
  · exact hlt
  · rw [Array.getElem?_eq_none hge] at h; cases h
theorem hp_alloc {w : World} {o o' : Obj} {i : Nat} (h : w.heap[i]? = some o) : (w.alloc o').heap[i]? = some o := (Below.heap_alloc w o' i (hp_lt h)).trans h
theorem hp_drew {w : World} {o : Obj} {i : Nat} (h : w.heap[i]? = some o) : w.drew.heap[i]? = some o := h
theorem hp_set {w : World} {o : Obj} {i : Nat} (h : w.heap[i]? = some o) {p : Addr} (hp : i ≠ p.block) (u : Value) : (w.setCell p u).heap[i]? = some o := (Below.heap_setCell w p u i hp).trans h
theorem hp_below {B : Nat} {w w' : World} {o : Obj} {i : Nat} (h : w.heap[i]? = some o) (hb : Below B w w') (hi : i < B) : w'.heap[i]? = some o := (hb.block i hi).trans h
theorem hp_row {w : World} {o : Obj} {i g : Nat} (h : w.heap[i]? = some o) (hg : i ≠ g) (cs : Array Value) : (w.setRow g cs).heap[i]? = some o := (setRow_other w g i cs hg).trans h
theorem hp_row_same {w : World} {g : Nat} {old : Array Value} {t : TypeId} (h : w.heap[g]? = some (.cells old t (0, 0))) (cs : Array Value) : (w.setRow g cs).heap[g]? = some (.cells cs t (0, 0)) := setRow_heap w g old cs t (0, 0) h
/-- A block of cells: what it reads, that it may be written. -/
theorem hp_cell {w : World} {g : Nat} {cs : Array Value} {t : TypeId} (h : w.heap[g]? = some (.cells cs t (0, 0))) {j : Nat} {v : Value} (hj : cs[j]? = some v) : w.cell? ⟨g, j, none⟩ = some v := (cell_of_row w g j cs t (0, 0) h).trans hj
theorem hp_free {w : World} {g : Nat} {cs : Array Value} {t : TypeId} (h : w.heap[g]? = some (.cells cs t (0, 0))) (j : Nat) : w.frozen? ⟨g, j, none⟩ = false := frozen_of_row w g j cs t h
theorem hp_put {w : World} {g : Nat} {cs : Array Value} {t : TypeId} (h : w.heap[g]? = some (.cells cs t (0, 0))) (j : Nat) (v : Value) : (w.setCell ⟨g, j, none⟩ v).heap[g]? = some (.cells (cs.setIfInBounds j v) t (0, 0)) := heap_setCell_same w g j cs t v h

theorem opsT_one : opsT.all (·.oneCell') = true := by simp [opsT, Value.oneCell']
theorem opsT_info : (Try.prog.info? 108).map (·.size) = some opsT.size := by kernel_rfl

theorem heap_new (w : World) (o : Obj) : (w.alloc o).heap[w.heap.size]? = some o := heap_alloc_new w o
theorem row_new (w : World) (c : Array Value) (t : TypeId) (cells : Array Value) : (w.alloc (.cells c t)).setRow w.heap.size cells = w.alloc (.cells cells t) := World.setRow_alloc_new w c cells t

set_option maxRecDepth 100000 in
set_option maxHeartbeats 400000 in
theorem operations_any (w : World) :
    Calls Try.prog 86 #[] w fun e w' => e = .returned (.agg opsT) ∧ w.alloc (.cells opsT 108) = w' := by
  go_enter Try.func86, Try.ntmps86
  go_wp2_with (refine wpList_store_row rfl 108 (.tmp 0) (.tmp 9) rfl w.heap.size opsT rfl rfl 108 _ (heap_new _ _) opsT_info rfl opsT_one ?_)
  rw [row_new]
  go_wp2
  refine bodyPost_ret (v := .agg opsT) ?_ rfl ⟨rfl, rfl⟩
  refine results_cell_row (p := 0) (ty := 108) rfl _ _ w.heap.size 108 opsT (0, 0) _ ?_ (heap_new _ _) Try.underlying108 rfl opsT_info
  simp [Act.put]

end Go.Proofs.Ytikblaebfpdngaa
