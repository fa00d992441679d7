/- Several texts in one. -/
import Derived.Test.YtmigkbimdjiigaaRows
import Derived.Test.YtmigkbimdjiigaaPlain
import Derived.WalkKit
import Derived.WalkSpells
import Derived.WalkLawsBesides
import Derived.RegionTactic
import Derived.ChangeAlike
import Derived.Deep.RegionWith
import Derived.Outline
import Derived.Lib.Hide
import Derived.OwnWalk
import Derived.Deep.WholeRow
import Derived.Deep.MidRow
/- The smallest functions of package code: contracts. -/
set_option linter.unusedVariables false
set_option linter.unusedSimpArgs false
namespace Go.Proofs.Ytmigkbimdjiigaa
open Go.RowKit Tinker

theorem ret_bool {a b : Bool} (h : a = b) : Ending.returned (.bool a) = .returned (.bool b) := by rw [h]
theorem ret_int {a b : Int} (h : a = b) : Ending.returned (.int .i64 a) = .returned (.int .i64 b) := by rw [h]

set_option maxHeartbeats 400000 in
theorem isBetween_any (n lo hi : Int) (w : World) :
    Calls Try.prog 102 #[.int .i64 n, .int .i64 lo, .int .i64 hi] w fun e w' => e = .returned (.bool (btw n lo hi)) ∧ w = w' := by
  go_enter Try.func102, Try.ntmps102
  go_wp2
  all_goals go_ret
  · exact ⟨ret_bool (by simp [btw, *]), rfl⟩
  · exact ⟨ret_bool (btw_false (.inl ‹_›)).symm, rfl⟩

end Go.Proofs.Ytmigkbimdjiigaa

/- Kinds of numbers, and the table of operations: contracts. -/
set_option linter.unusedVariables false
set_option linter.unusedSimpArgs false
namespace Go.Proofs.Ytmigkbimdjiigaa
open Go.RowKit Tinker

/-- The cells of a list of numbers. -/
def iv (s : List Int) : Array Value := (s.map (Value.int .i64)).toArray

theorem iv_size (s : List Int) : (iv s).size = s.length := by simp [iv]
theorem iv_get (s : List Int) (n : Int) (h : n.toNat < s.length) : (iv s)[n.toNat]? = some (.int .i64 (rg s n)) := by
  simp [iv, rg, List.getD_eq_getElem?_getD, h]
theorem iv_getN (s : List Int) (n : Nat) (h : n < s.length) : (iv s)[n]? = some (.int .i64 (s.getD n 0)) := by
  simp [iv, List.getD_eq_getElem?_getD, h]

/-- What block i holds, behind a new block, a draw, a store elsewhere. -/
theorem hp_new {w : World} {o : Obj} {i : Nat} (h : w.heap.size = i) : (w.alloc o).heap[i]? = some o := by subst h; exact heap_alloc_new w o
theorem hp_lt {w : World} {o : Obj} {i : Nat} (h : w.heap[i]? = some o) : i < w.heap.size := by
  rcases Nat.lt_or_ge i w.heap.size with hlt | hge
  · exact hlt
  · rw [Array.getElem?_eq_none hge] at h; cases h
theorem hp_alloc {w : World} {o o' : Obj} {i : Nat} (h : w.heap[i]? = some o) : (w.alloc o').heap[i]? = some o := (Below.heap_alloc w o' i (hp_lt h)).trans h
theorem hp_drew {w : World} {o : Obj} {i : Nat} (h : w.heap[i]? = some o) : w.drew.heap[i]? = some o := h
theorem hp_set {w : World} {o : Obj} {i : Nat} (h : w.heap[i]? = some o) {p : Addr} (hp : i ≠ p.block) (u : Value) : (w.setCell p u).heap[i]? = some o := (Below.heap_setCell w p u i hp).trans h
theorem hp_below {B : Nat} {w w' : World} {o : Obj} {i : Nat} (h : w.heap[i]? = some o) (hb : Below B w w') (hi : i < B) : w'.heap[i]? = some o := (hb.block i hi).trans h
theorem hp_row {w : World} {o : Obj} {i g : Nat} (h : w.heap[i]? = some o) (hg : i ≠ g) (cs : Array Value) : (w.setRow g cs).heap[i]? = some o := (setRow_other w g i cs hg).trans h
theorem hp_row_same {w : World} {g : Nat} {old : Array Value} {t : TypeId} (h : w.heap[g]? = some (.cells old t (0, 0))) (cs : Array Value) : (w.setRow g cs).heap[g]? = some (.cells cs t (0, 0)) := setRow_heap w g old cs t (0, 0) h
/-- A block of cells: what it reads, that it may be written. -/
theorem hp_cell {w : World} {g : Nat} {cs : Array Value} {t : TypeId} (h : w.heap[g]? = some (.cells cs t (0, 0))) {j : Nat} {v : Value} (hj : cs[j]? = some v) : w.cell? ⟨g, j, none⟩ = some v := (cell_of_row w g j cs t (0, 0) h).trans hj
theorem hp_free {w : World} {g : Nat} {cs : Array Value} {t : TypeId} (h : w.heap[g]? = some (.cells cs t (0, 0))) (j : Nat) : w.frozen? ⟨g, j, none⟩ = false := frozen_of_row w g j cs t h
theorem hp_put {w : World} {g : Nat} {cs : Array Value} {t : TypeId} (h : w.heap[g]? = some (.cells cs t (0, 0))) (j : Nat) (v : Value) : (w.setCell ⟨g, j, none⟩ v).heap[g]? = some (.cells (cs.setIfInBounds j v) t (0, 0)) := heap_setCell_same w g j cs t v h

theorem heap_new (w : World) (o : Obj) : (w.alloc o).heap[w.heap.size]? = some o := heap_alloc_new w o
theorem row_new (w : World) (c : Array Value) (t : TypeId) (cells : Array Value) : (w.alloc (.cells c t)).setRow w.heap.size cells = w.alloc (.cells cells t) := World.setRow_alloc_new w c cells t

end Go.Proofs.Ytmigkbimdjiigaa
