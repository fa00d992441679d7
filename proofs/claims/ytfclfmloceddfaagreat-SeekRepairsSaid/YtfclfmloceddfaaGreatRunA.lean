/- Several texts in one. -/
import Derived.Test.YtfclfmloceddfaaGreatRows
import Derived.Test.YtfclfmloceddfaaGreatPlain
import Derived.WalkKit
import Derived.WalkSpells
import Derived.WalkLawsBesides
import Derived.RegionTactic
import Derived.ChangeAlike
import Derived.Deep.RegionWith
import Derived.Outline
import Derived.Lib.Hide
import Derived.OwnWalk
import Derived.Deep.WholeRow
import Derived.Deep.MidRow
import Derived.Laws.EntriesVeiled
import Derived.Deep.RegionHeld3
import Derived.Deep.DeepCutAuto
import Derived.Laws.CopyOwn
import Derived.BigQuiet
import Derived.Deep.QuietTactic
import Derived.Maps.AppendAt
/- The smallest functions of package code: contracts. -/
set_option linter.unusedVariables false
set_option linter.unusedSimpArgs false
namespace Go.Proofs.YtfclfmloceddfaaGreat
open Go.RowKit Tinker

theorem ret_bool {a b : Bool} (h : a = b) : Ending.returned (.bool a) = .returned (.bool b) := by rw [h]
theorem ret_int {a b : Int} (h : a = b) : Ending.returned (.int .i64 a) = .returned (.int .i64 b) := by rw [h]

set_option maxHeartbeats 400000 in
theorem isBetween_any (n lo hi : Int) (w : World) :
    Calls Tryz.prog 68 #[.int .i64 n, .int .i64 lo, .int .i64 hi] w fun e w' => e = .returned (.bool (btw n lo hi)) ∧ w = w' := by
  go_enter Tryz.func68, Tryz.ntmps68
  go_wp2
  all_goals go_ret
  · exact ⟨ret_bool (by simp [btw, *]), rfl⟩
  · exact ⟨ret_bool (btw_false (.inl ‹_›)).symm, rfl⟩

set_option maxHeartbeats 400000 in
theorem cut_any (n : Int) (w : World) :
    Calls Tryz.prog 154 #[.int .i64 n] w fun e w' => e = .returned (.int .i64 (cutv n)) ∧ w = w' := by
  by_cases h1 : n ≤ -999
  · have h2 : ¬ 999 < n := by omega
    rw [cutv_low h1]
    go_enter Tryz.func154, Tryz.ntmps154
    go_wp2
    go_ret
    exact ⟨rfl, rfl⟩
  · by_cases h2 : 999 < n
    · rw [cutv_high (by omega)]
      go_enter Tryz.func154, Tryz.ntmps154
      go_wp2
      go_ret
      exact ⟨rfl, rfl⟩
    · rw [cutv_mid (by omega) (by omega)]
      go_enter Tryz.func154, Tryz.ntmps154
      go_wp2
      go_ret
      exact ⟨rfl, rfl⟩

set_option maxHeartbeats 400000 in
theorem first_any (a b : Int) (w : World) :
    Calls Tryz.prog 100 #[.int .i64 a, .int .i64 b] w fun e w' => e = .returned (.int .i64 a) ∧ w = w' := by
  go_enter Tryz.func100, Tryz.ntmps100
  go_wp2
  go_ret
  exact ⟨rfl, rfl⟩

set_option maxHeartbeats 400000 in
theorem sum_any (a b : Int) (w : World) (ha : -999 ≤ a ∧ a ≤ 999) (hb : -999 ≤ b ∧ b ≤ 999) :
    Calls Tryz.prog 102 #[.int .i64 a, .int .i64 b] w fun e w' => e = .returned (.int .i64 (a + b)) ∧ w = w' := by
  obtain ⟨ha1, ha2⟩ := ha
  obtain ⟨hb1, hb2⟩ := hb
  go_enter Tryz.func102, Tryz.ntmps102
  go_wp2
  go_ret
  exact ⟨rfl, rfl⟩

set_option maxHeartbeats 400000 in
theorem difference_any (a b : Int) (w : World) (ha : -999 ≤ a ∧ a ≤ 999) (hb : -999 ≤ b ∧ b ≤ 999) :
    Calls Tryz.prog 103 #[.int .i64 a, .int .i64 b] w fun e w' => e = .returned (.int .i64 (a - b)) ∧ w = w' := by
  obtain ⟨ha1, ha2⟩ := ha
  obtain ⟨hb1, hb2⟩ := hb
  go_enter Tryz.func103, Tryz.ntmps103
  go_wp2
  go_ret
  exact ⟨rfl, rfl⟩

set_option maxHeartbeats 400000 in
theorem smaller_any (a b : Int) (w : World) :
    Calls Tryz.prog 104 #[.int .i64 a, .int .i64 b] w fun e w' => e = .returned (.int .i64 (min a b)) ∧ w = w' := by
  by_cases h : b < a
  · rw [show min a b = b by omega]
    go_enter Tryz.func104, Tryz.ntmps104
    go_wp2
    go_ret
    exact ⟨rfl, rfl⟩
  · rw [show min a b = a by omega]
    go_enter Tryz.func104, Tryz.ntmps104
    go_wp2
    go_ret
    exact ⟨rfl, rfl⟩

set_option maxHeartbeats 400000 in
theorem greater_any (a b : Int) (w : World) :
    Calls Tryz.prog 105 #[.int .i64 a, .int .i64 b] w fun e w' => e = .returned (.int .i64 (max a b)) ∧ w = w' := by
  by_cases h : a < b
  · rw [show max a b = b by omega]
    go_enter Tryz.func105, Tryz.ntmps105
    go_wp2
    go_ret
    exact ⟨rfl, rfl⟩
  · rw [show max a b = a by omega]
    go_enter Tryz.func105, Tryz.ntmps105
    go_wp2
    go_ret
    exact ⟨rfl, rfl⟩

set_option maxHeartbeats 400000 in
theorem isBelow_any (a b : Int) (w : World) :
    Calls Tryz.prog 106 #[.int .i64 a, .int .i64 b] w fun e w' => e = .returned (.bool (decide (a < b))) ∧ w = w' := by
  go_enter Tryz.func106, Tryz.ntmps106
  go_wp2
  go_ret
  exact ⟨rfl, rfl⟩

set_option maxHeartbeats 400000 in
theorem never_any (a b : Int) (w : World) :
    Calls Tryz.prog 101 #[.int .i64 a, .int .i64 b] w fun e w' => e = .returned (.bool false) ∧ w = w' := by
  go_enter Tryz.func101, Tryz.ntmps101
  go_wp2
  go_ret
  exact ⟨rfl, rfl⟩

set_option maxHeartbeats 400000 in
theorem kIsRegister_any (n : Int) (w : World) :
    Calls Tryz.prog 86 #[.int .i64 n] w fun e w' => e = .returned (.bool (isReg n)) ∧ w = w' := by
  go_enter Tryz.func86, Tryz.ntmps86
  go_wp2_with (go_at_call 68; refine (isBetween_any _ _ _ _).mono ?_; rintro e w' ⟨rfl, rfl⟩)
  go_ret
  exact ⟨ret_bool (by simp [isReg]), rfl⟩

set_option maxHeartbeats 400000 in
theorem allows_any (k n : Int) (w : World) :
    Calls Tryz.prog 76 #[.int .i64 k, .int .i64 n] w fun e w' => e = .returned (.bool (allowsK k n)) ∧ w = w' := by
  by_cases h1 : k = 1
  · subst h1
    go_enter Tryz.func76, Tryz.ntmps76
    go_wp2_with (go_at_call 86; refine (kIsRegister_any _ _).mono ?_; rintro e w' ⟨rfl, rfl⟩)
    go_ret
    exact ⟨ret_bool (by simp [allowsK]), rfl⟩
  · by_cases h2 : k = 2
    · subst h2
      go_enter Tryz.func76, Tryz.ntmps76
      go_wp2_with (go_at_call 68; refine (isBetween_any _ _ _ _).mono ?_; rintro e w' ⟨rfl, rfl⟩)
      go_ret
      exact ⟨ret_bool (by simp [allowsK]), rfl⟩
    · by_cases h3 : k = 3
      · subst h3
        go_enter Tryz.func76, Tryz.ntmps76
        go_wp2_with (go_at_call 68; refine (isBetween_any _ _ _ _).mono ?_; rintro e w' ⟨rfl, rfl⟩)
        go_ret
        exact ⟨ret_bool (by simp [allowsK]), rfl⟩
      · have e1 : (k == 1) = false := by simpa using h1
        have e2 : (k == 2) = false := by simpa using h2
        have e3 : (k == 3) = false := by simpa using h3
        go_enter Tryz.func76, Tryz.ntmps76
        go_wp2
        go_ret
        exact ⟨ret_bool (by simp [allowsK, h1, h2, h3]), rfl⟩

end Go.Proofs.YtfclfmloceddfaaGreat

/- Kinds of numbers, and the table of operations: contracts. -/
set_option linter.unusedVariables false
set_option linter.unusedSimpArgs false
namespace Go.Proofs.YtfclfmloceddfaaGreat
open Go.RowKit Tinker

/-- The cells of a list of numbers. -/
def iv (s : List Int) : Array Value := (s.map (Value.int .i64)).toArray

theorem iv_size (s : List Int) : (iv s).size = s.length := by simp [iv]
theorem iv_get (s : List Int) (n : Int) (h : n.toNat < s.length) : (iv s)[n.toNat]? = some (.int .i64 (rg s n)) := by
  simp [iv, rg, List.getD_eq_getElem?_getD, h]
theorem iv_getN (s : List Int) (n : Nat) (h : n < s.length) : (iv s)[n]? = some (.int .i64 (s.getD n 0)) := by
  simp [iv, List.getD_eq_getElem?_getD, h]

set_option maxHeartbeats 400000 in
theorem in_reg (n : Int) (s : List Int) (w : World) (hs : s.length = 4) (hn : 0 ≤ n ∧ n ≤ 3) :
    Calls Tryz.prog 153 #[.int .i64 1, .agg (iv s), .int .i64 n] w fun e w' => e = .returned (.int .i64 (rg s n)) ∧ Below w.heap.size w w' := by
  have hg := iv_get s n (by omega)
  clear hs
  obtain ⟨hn1, hn2⟩ := hn
  go_enter Tryz.func153, Tryz.ntmps153
  go_wp2
  go_ret
  exact ⟨rfl, (Below.refl _ _).alloc (Nat.le_refl _) _⟩

set_option maxHeartbeats 400000 in
theorem in_num (k n : Int) (s : List Int) (w : World) (hk : k = 0 ∨ k = 2 ∨ k = 3) :
    Calls Tryz.prog 153 #[.int .i64 k, .agg (iv s), .int .i64 n] w fun e w' => e = .returned (.int .i64 n) ∧ Below w.heap.size w w' := by
  have h1 : (k == 1) = false := by rcases hk with rfl | rfl | rfl <;> rfl
  clear hk
  go_enter Tryz.func153, Tryz.ntmps153
  go_wp2
  go_ret
  exact ⟨rfl, (Below.refl _ _).alloc (Nat.le_refl _) _⟩

/-- The table of operations: of each Op the three kinds and the two functions. -/
def opsT : Array Value :=
  #[.int .i64 0, .int .i64 0, .int .i64 0, .func (.func 100) #[] #[], .func (.func 101) #[] #[],
    .int .i64 1, .int .i64 2, .int .i64 0, .func (.func 100) #[] #[], .func (.func 101) #[] #[],
    .int .i64 1, .int .i64 1, .int .i64 0, .func (.func 100) #[] #[], .func (.func 101) #[] #[],
    .int .i64 1, .int .i64 1, .int .i64 1, .func (.func 102) #[] #[], .func (.func 101) #[] #[],
    .int .i64 1, .int .i64 1, .int .i64 1, .func (.func 103) #[] #[], .func (.func 101) #[] #[],
    .int .i64 1, .int .i64 1, .int .i64 1, .func (.func 104) #[] #[], .func (.func 101) #[] #[],
    .int .i64 1, .int .i64 1, .int .i64 1, .func (.func 105) #[] #[], .func (.func 101) #[] #[],
    .int .i64 3, .int .i64 1, .int .i64 1, .func (.func 100) #[] #[], .func (.func 106) #[] #[]]

/-- What block i holds, behind a new block, a draw, a store elsewhere. -/
theorem hp_new {w : World} {o : Obj} {i : Nat} (h : w.heap.size = i) : (w.alloc o).heap[i]? = some o := by subst h; exact heap_alloc_new w o
theorem hp_lt {w : World} {o : Obj} {i : Nat} (h : w.heap[i]? = some o) : i < w.heap.size := by
  rcases Nat.lt_or_ge i w.heap.size with hlt | hge
  · exact hlt
  · rw [Array.getElem?_eq_none hge] at h; cases h
theorem hp_alloc {w : World} {o o' : Obj} {i : Nat} (h : w.heap[i]? = some o) : (w.alloc o').heap[i]? = some o := (Below.heap_alloc w o' i (hp_lt h)).trans h
theorem hp_drew {w : World} {o : Obj} {i : Nat} (h : w.heap[i]? = some o) : w.drew.heap[i]? = some o := h
theorem hp_set {w : World} {o : Obj} {i : Nat} (h : w.heap[i]? = some o) {p : Addr} (hp : i ≠ p.block) (u : Value) : (w.setCell p u).heap[i]? = some o := (Below.heap_setCell w p u i hp).trans h
theorem hp_below {B : Nat} {w w' : World} {o : Obj} {i : Nat} (h : w.heap[i]? = some o) (hb : Below B w w') (hi : i < B) : w'.heap[i]? = some o := (hb.block i hi).trans h
theorem hp_row {w : World} {o : Obj} {i g : Nat} (h : w.heap[i]? = some o) (hg : i ≠ g) (cs : Array Value) : (w.setRow g cs).heap[i]? = some o := (setRow_other w g i cs hg).trans h
theorem hp_row_same {w : World} {g : Nat} {old : Array Value} {t : TypeId} (h : w.heap[g]? = some (.cells old t (0, 0))) (cs : Array Value) : (w.setRow g cs).heap[g]? = some (.cells cs t (0, 0)) := setRow_heap w g old cs t (0, 0) h
/-- A block of cells: what it reads, that it may be written. -/
theorem hp_cell {w : World} {g : Nat} {cs : Array Value} {t : TypeId} (h : w.heap[g]? = some (.cells cs t (0, 0))) {j : Nat} {v : Value} (hj : cs[j]? = some v) : w.cell? ⟨g, j, none⟩ = some v := (cell_of_row w g j cs t (0, 0) h).trans hj
theorem hp_free {w : World} {g : Nat} {cs : Array Value} {t : TypeId} (h : w.heap[g]? = some (.cells cs t (0, 0))) (j : Nat) : w.frozen? ⟨g, j, none⟩ = false := frozen_of_row w g j cs t h
theorem hp_put {w : World} {g : Nat} {cs : Array Value} {t : TypeId} (h : w.heap[g]? = some (.cells cs t (0, 0))) (j : Nat) (v : Value) : (w.setCell ⟨g, j, none⟩ v).heap[g]? = some (.cells (cs.setIfInBounds j v) t (0, 0)) := heap_setCell_same w g j cs t v h

theorem opsT_one : opsT.all (·.oneCell') = true := by simp [opsT, Value.oneCell']
theorem opsT_info : (Tryz.prog.info? 114).map (·.size) = some opsT.size := by kernel_rfl

theorem heap_new (w : World) (o : Obj) : (w.alloc o).heap[w.heap.size]? = some o := heap_alloc_new w o
theorem row_new (w : World) (c : Array Value) (t : TypeId) (cells : Array Value) : (w.alloc (.cells c t)).setRow w.heap.size cells = w.alloc (.cells cells t) := World.setRow_alloc_new w c cells t

set_option maxRecDepth 100000 in
set_option maxHeartbeats 400000 in
theorem operations_any (w : World) :
    Calls Tryz.prog 75 #[] w fun e w' => e = .returned (.agg opsT) ∧ w.alloc (.cells opsT 114) = w' := by
  go_enter Tryz.func75, Tryz.ntmps75
  go_wp2_with (refine wpList_store_row rfl 114 (.tmp 0) (.tmp 9) rfl w.heap.size opsT rfl rfl 114 _ (heap_new _ _) opsT_info rfl opsT_one ?_)
  rw [row_new]
  go_wp2
  refine bodyPost_ret (v := .agg opsT) ?_ rfl ⟨rfl, rfl⟩
  refine results_cell_row (p := 0) (ty := 114) rfl _ _ w.heap.size 114 opsT (0, 0) _ ?_ (heap_new _ _) Tryz.underlying114 rfl opsT_info
  simp [Act.put]

end Go.Proofs.YtfclfmloceddfaaGreat

/- isLine, writes, reads: contracts. -/
set_option linter.unusedVariables false
set_option linter.unusedSimpArgs false
namespace Go.Proofs.YtfclfmloceddfaaGreat
open Go.RowKit Tinker

/-- The row of the table of operations for one Op. -/
def OpRow (op k0 k1 k2 : Int) (f g : Nat) : Prop := ∀ w, (Instr.index 114 (.agg opsT) (.int .i64 op)).run Tryz.prog w = .ok (.agg #[.int .i64 k0, .int .i64 k1, .int .i64 k2, .func (.func f) #[] #[], .func (.func g) #[] #[]]) w

theorem row0 : OpRow 0 0 0 0 100 101 := fun _ => by kernel_rfl
theorem row1 : OpRow 1 1 2 0 100 101 := fun _ => by kernel_rfl
theorem row2 : OpRow 2 1 1 0 100 101 := fun _ => by kernel_rfl
theorem row3 : OpRow 3 1 1 1 102 101 := fun _ => by kernel_rfl
theorem row4 : OpRow 4 1 1 1 103 101 := fun _ => by kernel_rfl
theorem row5 : OpRow 5 1 1 1 104 101 := fun _ => by kernel_rfl
theorem row6 : OpRow 6 1 1 1 105 101 := fun _ => by kernel_rfl
theorem row7 : OpRow 7 3 1 1 100 106 := fun _ => by kernel_rfl

theorem isLn_out {l : L} (h : l.op < 0 ∨ 7 < l.op) : isLn l = false := by
  unfold isLn; rw [if_neg (by omega), if_neg (by omega), if_neg (by omega), if_neg (by omega), if_neg (by omega)]

set_option maxHeartbeats 400000 in
theorem isLine_out (op td a b : Int) (w : World) (h : op < 0 ∨ 7 < op) :
    Calls Tryz.prog 51 #[.agg #[.int .i64 op, .int .i64 td, .int .i64 a, .int .i64 b]] w fun e w' => e = .returned (.bool false) ∧ Below w.heap.size w w' := by
  have hb : btw op 0 7 = false := btw_false h
  clear h
  go_enter Tryz.func51, Tryz.ntmps51
  go_wp2_with (go_at_call 68; refine (isBetween_any _ _ _ _).mono ?_; rintro e w' ⟨rfl, rfl⟩)
  go_ret
  exact ⟨rfl, (Below.refl _ _).alloc (Nat.le_refl _) _⟩

set_option maxHeartbeats 1000000 in
theorem isLine_in (op td a b k0 k1 k2 : Int) (f g : Nat) (w : World) (ho : 0 ≤ op ∧ op ≤ 7) (hr : OpRow op k0 k1 k2 f g) :
    Calls Tryz.prog 51 #[.agg #[.int .i64 op, .int .i64 td, .int .i64 a, .int .i64 b]] w fun e w' => e = .returned (.bool (allowsK k0 td && (allowsK k1 a && allowsK k2 b))) ∧ Below w.heap.size w w' := by
  have hb : btw op 0 7 = true := btw_true.2 ho
  unfold OpRow at hr
  clear ho
  go_enter Tryz.func51, Tryz.ntmps51
  go_upto_region 3 with (go_at_call 68; refine (isBetween_any _ _ _ _).mono ?_; rintro e w' ⟨rfl, rfl⟩)
  go_cut [3] (fun s wx => ∃ x : Nat, s = .pointer (some ⟨x, 0, none⟩) ∧ Below w.heap.size w wx ∧ wx.cell? ⟨x, 0, none⟩ = some (.int .i64 k0) ∧ wx.cell? ⟨x, 1, none⟩ = some (.int .i64 k1) ∧ wx.cell? ⟨x, 2, none⟩ = some (.int .i64 k2) ∧ wx.cell? ⟨w.heap.size, 1, none⟩ = some (.int .i64 td) ∧ wx.cell? ⟨w.heap.size, 2, none⟩ = some (.int .i64 a) ∧ wx.cell? ⟨w.heap.size, 3, none⟩ = some (.int .i64 b))
  case first =>
    go_region_with (go_at_call 75; refine (operations_any _).mono ?_; rintro e w' ⟨rfl, rfl⟩)
    all_goals go_wp2_with fail
    all_goals go_meet
    all_goals exact ⟨_, rfl, ((((Below.refl _ _).alloc (Nat.le_refl _) _).alloc (by simp) _).alloc (by simp; omega) _).drew, by go_simp, by go_simp, by go_simp, by go_simp, by go_simp, by go_simp⟩
  case rest =>
    obtain ⟨x, rfl, hB, h0, h1, h2, c1, c2, c3⟩ := hcut
    go_wp2_with (go_at_call 76; refine (allows_any _ _ _).mono ?_; rintro e w' ⟨rfl, rfl⟩)
    all_goals go_ret
    all_goals exact ⟨ret_bool (by simp [*]), hB⟩

theorem isLn_in {op td a b k0 k1 k2 : Int} (ho : 0 ≤ op ∧ op ≤ 7)
    (h : (op = 0 ∧ k0 = 0 ∧ k1 = 0 ∧ k2 = 0) ∨ (op = 1 ∧ k0 = 1 ∧ k1 = 2 ∧ k2 = 0) ∨ (op = 2 ∧ k0 = 1 ∧ k1 = 1 ∧ k2 = 0) ∨ (3 ≤ op ∧ op ≤ 6 ∧ k0 = 1 ∧ k1 = 1 ∧ k2 = 1) ∨ (op = 7 ∧ k0 = 3 ∧ k1 = 1 ∧ k2 = 1)) :
    (allowsK k0 td && (allowsK k1 a && allowsK k2 b)) = isLn ⟨op, td, a, b⟩ := by
  rcases h with ⟨rfl, rfl, rfl, rfl⟩ | ⟨rfl, rfl, rfl, rfl⟩ | ⟨rfl, rfl, rfl, rfl⟩ | ⟨h1, h2, rfl, rfl, rfl⟩ | ⟨rfl, rfl, rfl, rfl⟩
  · simp [isLn, allowsK, Bool.and_assoc]
  · simp [isLn, allowsK, Bool.and_assoc]
  · simp [isLn, allowsK, Bool.and_assoc]
  · unfold isLn
    rw [if_neg (by show ¬ op = 0; omega), if_neg (by show ¬ op = 1; omega), if_neg (by show ¬ op = 2; omega), if_pos ⟨h1, h2⟩]
    simp [allowsK, Bool.and_assoc]
  · simp [isLn, allowsK, Bool.and_assoc]

/-- The value of a line. -/
def lv (l : L) : Value := .agg #[.int .i64 l.op, .int .i64 l.to, .int .i64 l.a, .int .i64 l.b]

theorem row_of (op : Int) (ho : 0 ≤ op ∧ op ≤ 7) : ∃ k0 k1 k2 f g, OpRow op k0 k1 k2 f g ∧
    ((op = 0 ∧ k0 = 0 ∧ k1 = 0 ∧ k2 = 0) ∨ (op = 1 ∧ k0 = 1 ∧ k1 = 2 ∧ k2 = 0) ∨ (op = 2 ∧ k0 = 1 ∧ k1 = 1 ∧ k2 = 0) ∨ (3 ≤ op ∧ op ≤ 6 ∧ k0 = 1 ∧ k1 = 1 ∧ k2 = 1) ∨ (op = 7 ∧ k0 = 3 ∧ k1 = 1 ∧ k2 = 1)) := by
  have h : op = 0 ∨ op = 1 ∨ op = 2 ∨ op = 3 ∨ op = 4 ∨ op = 5 ∨ op = 6 ∨ op = 7 := by omega
  rcases h with rfl | rfl | rfl | rfl | rfl | rfl | rfl | rfl
  · exact ⟨_, _, _, _, _, row0, by simp⟩
  · exact ⟨_, _, _, _, _, row1, by simp⟩
  · exact ⟨_, _, _, _, _, row2, by simp⟩
  · exact ⟨_, _, _, _, _, row3, by simp⟩
  · exact ⟨_, _, _, _, _, row4, by simp⟩
  · exact ⟨_, _, _, _, _, row5, by simp⟩
  · exact ⟨_, _, _, _, _, row6, by simp⟩
  · exact ⟨_, _, _, _, _, row7, by simp⟩

theorem isLine_any (l : L) (w : World) :
    Calls Tryz.prog 51 #[lv l] w fun e w' => e = .returned (.bool (isLn l)) ∧ Below w.heap.size w w' := by
  by_cases h : l.op < 0 ∨ 7 < l.op
  · rw [isLn_out h]
    exact isLine_out l.op l.to l.a l.b w h
  · obtain ⟨k0, k1, k2, f, g, hr, hk⟩ := row_of l.op (by omega)
    have e := isLn_in (td := l.to) (a := l.a) (b := l.b) (by omega) hk
    have c := isLine_in l.op l.to l.a l.b k0 k1 k2 f g w (by omega) hr
    rw [e] at c
    exact c

end Go.Proofs.YtfclfmloceddfaaGreat

/- writes, reads: contracts. -/
set_option linter.unusedVariables false
set_option linter.unusedSimpArgs false
namespace Go.Proofs.YtfclfmloceddfaaGreat
open Go.RowKit Tinker

/-- The cells of a list of bools. -/
def bv (l : List Bool) : Array Value := (l.map Value.bool).toArray
theorem bv_size (l : List Bool) : (bv l).size = l.length := by simp [bv]
theorem bv_get (l : List Bool) (n : Nat) (h : n < l.length) : (bv l)[n]? = some (.bool (l.getD n false)) := by
  simp [bv, List.getD_eq_getElem?_getD, h]
theorem bv_set (l : List Bool) (n : Nat) (x : Bool) : (bv l).setIfInBounds n (.bool x) = bv (l.set n x) := by
  simp [bv, List.map_set]
theorem bv_one (l : List Bool) : (bv l).all (·.oneCell') = true := by
  rw [Array.all_eq_true_iff_forall_mem]
  intro v hv
  simp only [bv, List.mem_toArray, List.mem_map] at hv
  obtain ⟨x, _, rfl⟩ := hv
  rfl
theorem iv_set (l : List Int) (n : Nat) (x : Int) : (iv l).setIfInBounds n (.int .i64 x) = iv (l.set n x) := by
  simp [iv, List.map_set]
theorem iv_one (l : List Int) : (iv l).all (·.oneCell') = true := by
  rw [Array.all_eq_true_iff_forall_mem]
  intro v hv
  simp only [iv, List.mem_toArray, List.mem_map] at hv
  obtain ⟨x, _, rfl⟩ := hv
  rfl

theorem info_b4 : (Tryz.prog.info? 133).map (·.size) = some 4 := by kernel_rfl
theorem info_bv4 {l : List Bool} (h : l.length = 4) : (Tryz.prog.info? 133).map (·.size) = some (bv l).size := by rw [info_b4, bv_size, h]

end Go.Proofs.YtfclfmloceddfaaGreat

/- Validate, ValidateState and what they call: contracts. -/
set_option linter.unusedVariables false
set_option linter.unusedSimpArgs false
namespace Go.Proofs.YtfclfmloceddfaaGreat
open Go.RowKit Tinker

/-- A slice's address leads to these numbers. -/
def IntsAt (w : World) (a : Option Addr) (zs : List Int) : Prop :=
  zs = [] ∨ ∃ b off, a = some ⟨b, off, none⟩ ∧ b < w.heap.size ∧ ∀ j n, zs[j]? = some n → w.cell? ⟨b, off + j, none⟩ = some (.int .i64 n)

/-- A slice's address leads to these lines. -/
def LinesAt (w : World) (a : Option Addr) (ps : List L) : Prop :=
  ps = [] ∨ ∃ b off, a = some ⟨b, off, none⟩ ∧ b < w.heap.size ∧ ∀ j l, ps[j]? = some l →
    w.cell? ⟨b, off + j * 4, none⟩ = some (.int .i64 l.op) ∧ w.cell? ⟨b, off + j * 4 + 1, none⟩ = some (.int .i64 l.to) ∧
    w.cell? ⟨b, off + j * 4 + 2, none⟩ = some (.int .i64 l.a) ∧ w.cell? ⟨b, off + j * 4 + 3, none⟩ = some (.int .i64 l.b)

theorem IntsAt.below {w w' : World} {B : Nat} {a : Option Addr} {zs : List Int} (h : IntsAt w a zs) (hb : Below B w w') (hB : w.heap.size ≤ B) : IntsAt w' a zs := by
  rcases h with h | ⟨b, off, e, hlt, hc⟩
  · exact .inl h
  · exact .inr ⟨b, off, e, Nat.lt_of_lt_of_le hlt hb.size, fun j n hj => (hb.cell (p := ⟨b, off + j, none⟩) (by show b < B; omega)).trans (hc j n hj)⟩
theorem LinesAt.below {w w' : World} {B : Nat} {a : Option Addr} {ps : List L} (h : LinesAt w a ps) (hb : Below B w w') (hB : w.heap.size ≤ B) : LinesAt w' a ps := by
  rcases h with h | ⟨b, off, e, hlt, hc⟩
  · exact .inl h
  · refine .inr ⟨b, off, e, Nat.lt_of_lt_of_le hlt hb.size, fun j l hj => ?_⟩
    obtain ⟨h0, h1, h2, h3⟩ := hc j l hj
    exact ⟨(hb.cell (p := ⟨b, _, none⟩) (by show b < B; omega)).trans h0, (hb.cell (p := ⟨b, _, none⟩) (by show b < B; omega)).trans h1, (hb.cell (p := ⟨b, _, none⟩) (by show b < B; omega)).trans h2, (hb.cell (p := ⟨b, _, none⟩) (by show b < B; omega)).trans h3⟩
theorem IntsAt.at_ {w : World} {a : Option Addr} {zs : List Int} (h : IntsAt w a zs) {k : Nat} (hk : k < zs.length) : ∃ b off n, a = some ⟨b, off, none⟩ ∧ b < w.heap.size ∧ zs[k]? = some n ∧ w.cell? ⟨b, off + k, none⟩ = some (.int .i64 n) := by
  obtain ⟨b, off, e, hlb, hc⟩ := h.resolve_left (by rintro rfl; simp at hk)
  obtain ⟨n, hn⟩ := get_of_lt hk
  exact ⟨b, off, n, e, hlb, hn, hc k n hn⟩
theorem LinesAt.at_ {w : World} {a : Option Addr} {ps : List L} (h : LinesAt w a ps) {k : Nat} (hk : k < ps.length) : ∃ b off l, a = some ⟨b, off, none⟩ ∧ b < w.heap.size ∧ ps[k]? = some l ∧
    w.cell? ⟨b, off + k * 4, none⟩ = some (.int .i64 l.op) ∧ w.cell? ⟨b, off + k * 4 + 1, none⟩ = some (.int .i64 l.to) ∧
    w.cell? ⟨b, off + k * 4 + 2, none⟩ = some (.int .i64 l.a) ∧ w.cell? ⟨b, off + k * 4 + 3, none⟩ = some (.int .i64 l.b) := by
  obtain ⟨b, off, e, hlb, hc⟩ := h.resolve_left (by rintro rfl; simp at hk)
  obtain ⟨n, hn⟩ := get_of_lt hk
  exact ⟨b, off, n, e, hlb, hn, hc k n hn⟩

set_option maxHeartbeats 400000 in
theorem validate_any (a : Option Addr) (cap : Nat) (ps : List L) (w : World) (hp : LinesAt w a ps) :
    Calls Tryz.prog 30 #[.slice a ps.length cap] w fun e w' => e = .returned (.int .i64 (vp ps)) ∧ Below w.heap.size w w' := by
  by_cases h8 : ps.length ≤ 8
  · go_enter Tryz.func30, Tryz.ntmps30
    go_wp2_with fail
    go_loopw [10] (fun i wr => ∃ k : Nat, k ≤ ps.length ∧ i = .int .i64 k ∧ (ps.take k).all isLn = true ∧ Below w.heap.size w wr) (fun i _ => ps.length - (intOf i).toNat)
    case atStart => exact ⟨0, Nat.zero_le _, rfl, by simp, Below.refl _ _⟩
    case round =>
      obtain ⟨k, hk, rfl, hall, hB⟩ := hrel
      have HA := Lib.hid hall
      clear hall
      by_cases hlt : k < ps.length
      · obtain ⟨b, off, l, rfl, hlb, hl, h0, h1, h2, h3⟩ := (hp.below hB (Nat.le_refl _)).at_ hlt
        have HL := Lib.hid hl
        clear hp hl
        go_wp2_with fail
        refine (isLine_any l _).mono ?_
        rintro e w1 ⟨rfl, hB1⟩
        have hB2 : Below w.heap.size w w1 := (hB.alloc hB.size _).trans (hB1.mono (by have := hB.size; simp; omega))
        cases hv : isLn l
        · have HV := Lib.hid hv
          clear hv
          go_wp2
          go_ret
          exact ⟨ret_int (vp_bad h8 (all_not HL.out HV.out)).symm, hB2⟩
        · have HV := Lib.hid hv
          clear hv
          go_wp2
          go_roundw
          case rel => exact ⟨k + 1, by omega, by go_num, all_snoc HA.out HL.out HV.out, hB2⟩
          case measure => simp [intOf]; omega
      · go_wp2
        go_ret
        exact ⟨ret_int (vp_good h8 (all_whole HA.out hlt)).symm, hB⟩
  · rw [vp_large (by omega)]
    have h9 : 8 < ps.length := by omega
    clear h8
    go_enter Tryz.func30, Tryz.ntmps30
    go_wp2
    go_ret
    exact ⟨rfl, Below.refl _ _⟩

set_option maxHeartbeats 400000 in
theorem areBetween_any (a : Option Addr) (cap : Nat) (zs : List Int) (lo hi : Int) (w : World) (hz : IntsAt w a zs) (hm : zs.length ≤ 9223372036854775806) :
    Calls Tryz.prog 43 #[.slice a zs.length cap, .int .i64 lo, .int .i64 hi] w fun e w' => e = .returned (.bool (allBtw zs lo hi)) ∧ w = w' := by
  go_enter Tryz.func43, Tryz.ntmps43
  go_wp2_with fail
  go_loop [11] (fun i => ∃ k : Nat, k ≤ zs.length ∧ i = .int .i64 k ∧ (zs.take k).all (btw · lo hi) = true) (fun i => zs.length - (intOf i).toNat)
  case atStart => exact ⟨0, Nat.zero_le _, rfl, by simp⟩
  case round =>
    obtain ⟨k, hk, rfl, hall⟩ := hrel
    have HA := Lib.hid hall
    clear hall
    by_cases hlt : k < zs.length
    · obtain ⟨b, off, n, rfl, hlb, hl, h0⟩ := hz.at_ hlt
      have HL := Lib.hid hl
      clear hz hl
      cases hv : btw n lo hi
      · have HV := Lib.hid hv
        have hv2 : btw n lo hi = false := hv
        clear hv
        go_wp2_with (go_at_call 68; refine (isBetween_any _ _ _ _).mono ?_; rintro e w' ⟨rfl, rfl⟩)
        go_ret
        exact ⟨ret_bool (by unfold allBtw; exact (all_not HL.out HV.out).symm), rfl⟩
      · have HV := Lib.hid hv
        go_wp2_with (go_at_call 68; refine (isBetween_any _ _ _ _).mono ?_; rintro e w' ⟨rfl, rfl⟩)
        go_round
        case rel => exact ⟨k + 1, by omega, by go_num, all_snoc HA.out HL.out HV.out⟩
        case measure => simp [intOf]; omega
    · go_wp2
      go_ret
      exact ⟨ret_bool (by unfold allBtw; exact (all_whole HA.out hlt).symm), rfl⟩

theorem vs_bad_len {s : List Int} (h : s.length ≠ 4) : vs s = 1 := by unfold vs; rw [if_neg (fun e => h e.1)]
theorem vs_of {s : List Int} (h : s.length = 4) : vs s = if allBtw s (-999) 999 = true then 0 else 1 := by unfold vs; simp [h]

set_option maxHeartbeats 400000 in
theorem validateState_any (a : Option Addr) (cap : Nat) (zs : List Int) (w : World) (hz : IntsAt w a zs) (hm : zs.length ≤ 9223372036854775806) :
    Calls Tryz.prog 85 #[.slice a zs.length cap] w fun e w' => e = .returned (.int .i64 (vs zs)) ∧ w = w' := by
  by_cases h4 : zs.length = 4
  · have hc := areBetween_any a cap zs (-999) 999 w hz hm
    have hv := vs_of h4
    rw [hv]
    rw [h4] at hc ⊢
    have HC := Lib.hid hc
    clear hc hm hz h4 hv
    cases hb : allBtw zs (-999) 999
    · rw [if_neg (by simp)]
      rw [hb] at HC
      go_enter Tryz.func85, Tryz.ntmps85
      go_wp2_with (go_at_call 43; refine (HC.out).mono ?_; rintro e w' ⟨rfl, rfl⟩)
      go_ret
      exact ⟨rfl, rfl⟩
    · rw [if_pos rfl]
      rw [hb] at HC
      go_enter Tryz.func85, Tryz.ntmps85
      go_wp2_with (go_at_call 43; refine (HC.out).mono ?_; rintro e w' ⟨rfl, rfl⟩)
      go_ret
      exact ⟨rfl, rfl⟩
  · rw [vs_bad_len h4]
    have h4' : ((zs.length : Int) != 4) = true := by rw [bne_iff_ne]; omega
    have h4'' : ((zs.length : Int) == 4) = false := by rw [beq_eq_false_iff_ne]; omega
    clear h4 hz
    go_enter Tryz.func85, Tryz.ntmps85
    go_wp2
    go_ret
    exact ⟨rfl, rfl⟩

end Go.Proofs.YtfclfmloceddfaaGreat

/- firstError, validateRun, stateOf, slices.Clone of numbers: contracts. -/
set_option linter.unusedVariables false
set_option linter.unusedSimpArgs false
namespace Go.Proofs.YtfclfmloceddfaaGreat
open Go.RowKit Tinker

/-- The first number of a list that is not 0. -/
def feL : List Int → Int
  | [] => 0
  | x :: r => if x = 0 then feL r else x
theorem feL_two (a b : Int) : feL [a, b] = fe a b := by
  simp only [feL, fe]
  split
  · split <;> simp_all
  · rfl
theorem feL_at : ∀ {l : List Int} {k : Nat} {x : Int}, (l.take k).all (· == 0) = true → l[k]? = some x → x ≠ 0 → feL l = x
  | [], k, x, _, h, _ => by simp at h
  | y :: r, 0, x, _, h, hx => by
    simp only [List.getElem?_cons_zero, Option.some.injEq] at h
    subst h
    rw [feL, if_neg hx]
  | y :: r, k + 1, x, h, hg, hx => by
    simp only [List.take_succ_cons, List.all_cons, Bool.and_eq_true, beq_iff_eq] at h
    rw [feL, if_pos h.1]
    exact feL_at h.2 (by simpa using hg) hx
theorem feL_zero : ∀ {l : List Int}, l.all (· == 0) = true → feL l = 0
  | [], _ => rfl
  | y :: r, h => by
    simp only [List.all_cons, Bool.and_eq_true, beq_iff_eq] at h
    rw [feL, if_pos h.1]
    exact feL_zero h.2

set_option maxHeartbeats 400000 in
theorem firstError_any (a : Option Addr) (cap : Nat) (zs : List Int) (w : World) (hz : IntsAt w a zs) (hm : zs.length ≤ 100) :
    Calls Tryz.prog 16 #[.slice a zs.length cap] w fun e w' => e = .returned (.int .i64 (feL zs)) ∧ w = w' := by
  go_enter Tryz.func16, Tryz.ntmps16
  go_wp2_with fail
  go_loop [7] (fun i => ∃ k : Nat, k ≤ zs.length ∧ i = .int .i64 k ∧ (zs.take k).all (· == 0) = true) (fun i => zs.length - (intOf i).toNat)
  case atStart => exact ⟨0, Nat.zero_le _, rfl, by simp⟩
  case round =>
    obtain ⟨k, hk, rfl, hall⟩ := hrel
    have HA := Lib.hid hall
    clear hall
    by_cases hlt : k < zs.length
    · obtain ⟨b, off, n, rfl, hlb, hl, h0⟩ := hz.at_ hlt
      have HL := Lib.hid hl
      clear hz hl
      by_cases hv : n = 0
      · have HV := Lib.hid hv
        have hv2 : (n == 0) = true := by simpa using hv
        have hv3 : (n != 0) = false := by simpa using hv
        clear hv
        go_wp2
        go_round
        case rel => exact ⟨k + 1, by omega, by go_num, all_snoc HA.out HL.out hv2⟩
        case measure => simp [intOf]; omega
      · have HV := Lib.hid hv
        have hv2 : (n == 0) = false := by simpa using hv
        have hv3 : (n != 0) = true := by simpa using hv
        clear hv
        go_wp2
        go_ret
        exact ⟨ret_int (feL_at HA.out HL.out HV.out).symm, rfl⟩
    · go_wp2
      go_ret
      exact ⟨ret_int (feL_zero (all_whole HA.out hlt)).symm, rfl⟩

theorem ints_two (w : World) (c d : Int) (t : TypeId) : IntsAt (w.alloc (.cells #[.int .i64 c, .int .i64 d] t)) (some ⟨w.heap.size, 0, none⟩) [c, d] := by
  refine .inr ⟨w.heap.size, 0, rfl, by simp, fun j n hj => ?_⟩
  match j, hj with
  | 0, hj => simp at hj; subst hj; exact hp_cell (heap_new w _) (by simp)
  | 1, hj => simp at hj; subst hj; exact hp_cell (heap_new w _) (by simp)
  | j + 2, hj => simp at hj

theorem firstError_two (w : World) (c d : Int) (t : TypeId) :
    Calls Tryz.prog 16 #[.slice (some ⟨w.heap.size, 0, none⟩) 2 2] (w.alloc (.cells #[.int .i64 c, .int .i64 d] t)) fun e w' => e = .returned (.int .i64 (fe c d)) ∧ w.alloc (.cells #[.int .i64 c, .int .i64 d] t) = w' := by
  rw [← feL_two]
  exact firstError_any _ 2 [c, d] _ (ints_two w c d t) (by simp)

set_option maxHeartbeats 400000 in
theorem validateRun_any (a b : Option Addr) (ca cb : Nat) (ps : List L) (s : List Int) (w : World) (hp : LinesAt w a ps) (hs : IntsAt w b s) (hm : s.length ≤ 9223372036854775806) :
    Calls Tryz.prog 135 #[.slice a ps.length ca, .slice b s.length cb] w fun e w' => e = .returned (.int .i64 (vr ps s)) ∧ Below w.heap.size w w' := by
  go_enter Tryz.func135, Tryz.ntmps135
  go_wp2_with fail
  refine (validate_any a ca ps _ hp).mono ?_
  rintro e w1 ⟨rfl, hB⟩
  go_wp2_with fail
  refine (validateState_any b cb s _ (hs.below hB (Nat.le_refl _)) hm).mono ?_
  rintro e w2 ⟨rfl, rfl⟩
  go_wp2_with fail
  refine (firstError_two _ _ _ _).mono ?_
  rintro e w3 ⟨rfl, rfl⟩
  go_wp2
  go_ret
  exact ⟨rfl, hB.alloc hB.size _⟩

theorem info_i4 : (Tryz.prog.info? 151).map (·.size) = some 4 := by kernel_rfl
theorem info_st : (Tryz.prog.info? 152).map (·.size) = some 4 := by kernel_rfl
theorem info_int : (Tryz.prog.info? 3).map (fun i => (i.zero, i.size, i.bytes)) = some (some (.int .i64 0), 1, 8) := by kernel_rfl
theorem info_int1 : (Tryz.prog.info? 3).map (·.size) = some 1 := by kernel_rfl

set_option maxRecDepth 100000 in
set_option maxHeartbeats 400000 in
theorem stateOf_any (a : Option Addr) (ca : Nat) (s : List Int) (w : World) (h4 : s.length = 4) (hs : IntsAt w a s) :
    Calls Tryz.prog 137 #[.slice a s.length ca] w fun e w' => e = .returned (.agg (iv s)) ∧ Below w.heap.size w w' := by
  obtain ⟨b, off, rfl, hlb, hc⟩ := hs.resolve_left (by rintro rfl; simp at h4)
  have HC := Lib.hid hc
  have H4 := Lib.hid h4
  rw [h4]
  clear hc hs h4
  go_enter Tryz.func137, Tryz.ntmps137
  go_wp2_with (refine wpList_copy_splice rfl (.tmp 4) (.tmp 5) 37 37 rfl 3 Tryz.underlying37 info_int1 (some ⟨w.heap.size + 1, 0, none⟩) (some ⟨b, off, none⟩) 4 4 4 ca rfl rfl (w.heap.size + 1) 0 [.int .i64 0, .int .i64 0, .int .i64 0, .int .i64 0] 152 ?h1 (s.map (Value.int .i64)) ?h2 ?h3 ?h4 ?h5 (w.heap.size + 1) ((w.alloc (.cells #[.int .i64 0, .int .i64 0, .int .i64 0, .int .i64 0] 152)).alloc (.cells #[.int .i64 0, .int .i64 0, .int .i64 0, .int .i64 0] 152)) (Below.refl _ _) (Nat.le_refl _) ?_)
  case h1 => exact hp_new (by simp)
  case h2 => simp [H4.out]
  case h3 => exact fun _ => HC.out
  case h4 => simp [H4.out]
  case h5 => intro v hv; simp only [List.mem_map] at hv; obtain ⟨n, _, rfl⟩ := hv; rfl
  intro w1 hrow hB
  have hB1 : Below w.heap.size w w1 := (((Below.refl _ _).alloc (Nat.le_refl _) _).alloc (by simp) _).trans (hB.mono (by omega))
  have hr1 : Hid (w1.heap[w.heap.size + 1]? = some (.cells (iv s) 152 (0, 0))) := by
    have h := hrow.out
    have e : splice [.int .i64 0, .int .i64 0, .int .i64 0, .int .i64 0] 0 (s.map (Value.int .i64)) = s.map (Value.int .i64) := by
      have := H4.out
      simp [splice, this]
    rw [e] at h
    exact h
  have hr0 : Hid (w1.heap[w.heap.size]? = some (.cells #[.int .i64 0, .int .i64 0, .int .i64 0, .int .i64 0] 152 (0, 0))) := hp_below (hp_alloc (hp_new rfl)) hB (by omega)
  clear hrow hB
  go_wp2_with (first | (refine wpList_load_row rfl 152 (.tmp 3) rfl (w.heap.size + 1) rfl 152 (iv s) (0, 0) _ hr1.out Tryz.underlying152 rfl (by rw [info_st, iv_size, H4.out]) ?_) | (refine wpList_store_row rfl 152 (.tmp 2) (.tmp 7) rfl w.heap.size (iv s) rfl rfl 152 _ hr0.out (by rw [info_st, iv_size, H4.out]) (by rw [iv_size, H4.out]; rfl) (iv_one _) ?_))
  have K := hp_row_same hr0.out (iv s)
  refine bodyPost_ret (v := .agg (iv s)) ?_ rfl ⟨rfl, below_setRow hB1 (Nat.le_refl _) _⟩
  exact results_cell_row (p := 2) (ty := 152) rfl _ _ w.heap.size 152 _ (0, 0) _ (by simp [Act.put]) K Tryz.underlying152 rfl (by rw [info_st, iv_size, H4.out])

/-- A slice in memory of the call's own reads as numbers. -/
theorem ints_of_own {w : World} {base : Nat} {e : TypeId} {a : Option Addr} {n c : Nat} {zs : List Int} (h : w.ownsRow base e 1 (.slice a n c) n (zs.map (Value.int .i64))) : IntsAt w a zs ∧ zs.length = n := by
  have hl : zs.length = n := by simpa using h.1
  refine ⟨?_, hl⟩
  rcases h.2 with ⟨he, hn⟩ | ⟨g, cap, cur, he, _, hg, _, _, _, hx⟩
  · left; exact List.eq_nil_of_length_eq_zero (by omega)
  · injection he with ha hn hc
    subst ha
    right
    refine ⟨g, 0, rfl, hp_lt hg, fun j z hj => ?_⟩
    rw [Nat.zero_add]
    refine hp_cell hg ?_
    have h2 : (cur.toList.take (n * 1))[j]? = some (.int .i64 z) := by rw [hx]; simp [hj]
    rw [List.getElem?_take] at h2
    split at h2
    · simpa using h2
    · cases h2

/-- A new slice of numbers. -/
def GivesInts (zs : List Int) (w : World) (e : Ending) (w' : World) : Prop :=
  ∃ a c, e = .returned (.slice a zs.length c) ∧ w'.ownsRow w.heap.size 3 1 (.slice a zs.length c) zs.length (zs.map (Value.int .i64)) ∧ Below w.heap.size w w'

theorem own_slice {w : World} {base n size : Nat} {e : TypeId} {v : Value} {xs : List Value} (h : w.ownsRow base e size v n xs) : ∃ a c, v = .slice a n c := by
  rcases h.2 with ⟨rfl, rfl⟩ | ⟨g, cap, cur, rfl, _⟩
  · exact ⟨_, _, rfl⟩
  · exact ⟨_, _, rfl⟩
theorem givesInts_of {w w1 : World} {v : Value} {s : List Int} {n : Nat} (hn : s.length = n) (h : w1.ownsRow w.heap.size 3 1 v n (s.map (Value.int .i64))) (hB : Below w.heap.size w w1) : GivesInts s w (.returned v) w1 := by
  subst hn
  obtain ⟨a, c, rfl⟩ := own_slice h
  exact ⟨a, c, rfl, h, hB⟩

set_option maxRecDepth 100000 in
set_option maxHeartbeats 400000 in
theorem cloneInts_any (b off n cap : Nat) (s : List Int) (w : World) (hn : s.length = n) (hpos : 0 < n) (hm : n ≤ 1000) (hs : ∀ j z, s[j]? = some z → w.cell? ⟨b, off + j, none⟩ = some (.int .i64 z)) (hb : b < w.heap.size) :
    Calls Tryz.prog 138 #[.slice (some ⟨b, off, none⟩) n cap] w (GivesInts s w) := by
  obtain ⟨i0, hi, hz0, hz1, hz2⟩ := info_parts info_int
  have HC := Lib.hid hs
  have H4 := Lib.hid hn
  clear hs hn
  have hnil := fun (w : World) => Lib.run_eql_slice_nil (P := Tryz.prog) w 37 3 (some ⟨b, off, none⟩) n cap 0 0 Tryz.underlying37
  have hown := World.ownsRow_lit (base := w.heap.size) (e := 3) (size := 1) w #[] 0 (Nat.le_refl _) (by simp [maxLen]) (by simp)
  go_enter Tryz.func138, Tryz.ntmps138
  go_wp2_with (at_builtin; (refine wpList_append_own _ rfl (.tmp 5) (.tmp 6) 37 rfl w.heap.size 3 i0 (.int .i64 0) 1 8 Tryz.underlying37 hi hz0 hz1 hz2 rfl (by decide) _ 0 [] rfl hown ⟨b, off, none⟩ n cap (s.map (Value.int .i64)) rfl ?c1 ?c2 ?c3 ?c4 ?c5 ?c6 ?_))
  case c1 => simp [H4.out]
  case c2 => exact HC.out
  case c3 => exact fun _ _ => rfl
  case c4 => simp [maxLen]; omega
  case c5 => omega
  intro v' w1 hown1 hgrow _
  have hB : Below w.heap.size w w1 := ((Below.refl _ _).alloc (Nat.le_refl _) _).grown hgrow (by simp) (by rintro k hk; simp [Value.ownBlock] at hk; omega)
  have HO := Lib.hid hown1
  clear hown1 hown hgrow
  go_wp2
  go_ret
  exact givesInts_of H4.out HO.out hB

end Go.Proofs.YtfclfmloceddfaaGreat
