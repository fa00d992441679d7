/- Rows, fractions: contracts of check and kit. -/
import Derived.Test.YtmigkbimdjiigaaChkA
import Derived.Test.YtmigkbimdjiigaaRuns
set_option linter.unusedVariables false
set_option linter.unusedSimpArgs false
namespace Go.Proofs.Ytmigkbimdjiigaa
open Go.RowKit Tinker

theorem mkIn0 (w : World) : (Instr.makeSlice 23 (.int .i64 ((0 : Nat) : Int)) (.int .i64 ((0 : Nat) : Int))).run Try.prog w = .ok (.slice (some ⟨w.heap.size, 0, none⟩) 0 0) (w.alloc (.cells (iv (List.replicate 0 0)) 3)) := by kernel_rfl
theorem mkIn1 (w : World) : (Instr.makeSlice 23 (.int .i64 ((1 : Nat) : Int)) (.int .i64 ((1 : Nat) : Int))).run Try.prog w = .ok (.slice (some ⟨w.heap.size, 0, none⟩) 1 1) (w.alloc (.cells (iv (List.replicate 1 0)) 3)) := by kernel_rfl
theorem mkIn2 (w : World) : (Instr.makeSlice 23 (.int .i64 ((2 : Nat) : Int)) (.int .i64 ((2 : Nat) : Int))).run Try.prog w = .ok (.slice (some ⟨w.heap.size, 0, none⟩) 2 2) (w.alloc (.cells (iv (List.replicate 2 0)) 3)) := by kernel_rfl
theorem mkIn3 (w : World) : (Instr.makeSlice 23 (.int .i64 ((3 : Nat) : Int)) (.int .i64 ((3 : Nat) : Int))).run Try.prog w = .ok (.slice (some ⟨w.heap.size, 0, none⟩) 3 3) (w.alloc (.cells (iv (List.replicate 3 0)) 3)) := by kernel_rfl
theorem mkIn4 (w : World) : (Instr.makeSlice 23 (.int .i64 ((4 : Nat) : Int)) (.int .i64 ((4 : Nat) : Int))).run Try.prog w = .ok (.slice (some ⟨w.heap.size, 0, none⟩) 4 4) (w.alloc (.cells (iv (List.replicate 4 0)) 3)) := by kernel_rfl
theorem mkIn5 (w : World) : (Instr.makeSlice 23 (.int .i64 ((5 : Nat) : Int)) (.int .i64 ((5 : Nat) : Int))).run Try.prog w = .ok (.slice (some ⟨w.heap.size, 0, none⟩) 5 5) (w.alloc (.cells (iv (List.replicate 5 0)) 3)) := by kernel_rfl
theorem mkIn6 (w : World) : (Instr.makeSlice 23 (.int .i64 ((6 : Nat) : Int)) (.int .i64 ((6 : Nat) : Int))).run Try.prog w = .ok (.slice (some ⟨w.heap.size, 0, none⟩) 6 6) (w.alloc (.cells (iv (List.replicate 6 0)) 3)) := by kernel_rfl
theorem mkIn7 (w : World) : (Instr.makeSlice 23 (.int .i64 ((7 : Nat) : Int)) (.int .i64 ((7 : Nat) : Int))).run Try.prog w = .ok (.slice (some ⟨w.heap.size, 0, none⟩) 7 7) (w.alloc (.cells (iv (List.replicate 7 0)) 3)) := by kernel_rfl
theorem mkIn8 (w : World) : (Instr.makeSlice 23 (.int .i64 ((8 : Nat) : Int)) (.int .i64 ((8 : Nat) : Int))).run Try.prog w = .ok (.slice (some ⟨w.heap.size, 0, none⟩) 8 8) (w.alloc (.cells (iv (List.replicate 8 0)) 3)) := by kernel_rfl
theorem mkInts (n : Nat) (hn : n ≤ 8) (w : World) : (Instr.makeSlice 23 (.int .i64 (n : Int)) (.int .i64 (n : Int))).run Try.prog w = .ok (.slice (some ⟨w.heap.size, 0, none⟩) n n) (w.alloc (.cells (iv (List.replicate n 0)) 3)) := by
  have c : n = 0 ∨ n = 1 ∨ n = 2 ∨ n = 3 ∨ n = 4 ∨ n = 5 ∨ n = 6 ∨ n = 7 ∨ n = 8 := by omega
  rcases c with rfl | rfl | rfl | rfl | rfl | rfl | rfl | rfl | rfl
  · exact mkIn0 w
  · exact mkIn1 w
  · exact mkIn2 w
  · exact mkIn3 w
  · exact mkIn4 w
  · exact mkIn5 w
  · exact mkIn6 w
  · exact mkIn7 w
  · exact mkIn8 w

/-- The row after the first k numbers. -/
def rowTo (n : Nat) (ls : List Int) : Nat → List Int
  | 0 => List.replicate n 0
  | k + 1 => (rowTo n ls k).set (ls.getD k 0).toNat 1
theorem rowTo_length (n : Nat) (ls : List Int) : ∀ k, (rowTo n ls k).length = n
  | 0 => by simp [rowTo]
  | k + 1 => by rw [rowTo, List.length_set]; exact rowTo_length n ls k
/-- Which lines are done, in 1 and 0. -/
def rowL (ps : List L) (s : List Int) : List Int := rowTo ps.length (doneA ps s) (doneA ps s).length
theorem rowL_length (ps : List L) (s : List Int) : (rowL ps s).length = ps.length := rowTo_length _ _ _
theorem done_in {ps : List L} {s : List Int} (hz : vr ps s = 0) : ∀ x ∈ doneA ps s, 0 ≤ x ∧ x < (ps.length : Int) := by
  have h8 := (vp_ok (vr_ok hz).1).1
  have hd : doneA ps s = linesOf (runS ps s) := by unfold doneA; rw [if_pos hz]; exact plc_done runS_asc fun x hx => by have := runS_lt x hx; omega
  rw [hd]
  intro x hx
  unfold linesOf at hx
  obtain ⟨y, hy, rfl⟩ := List.mem_map.1 hx
  have := runS_lt y hy
  omega

/-- A box and a row. -/
structure RowI (M : Nat) (zs : List Int) (w W : World) : Prop where
  bm : W.heap[M]? = some (.cells (iv zs) 3 (0, 0))
  below : Below w.heap.size w W
theorem RowI.low {M : Nat} {zs : List Int} {w W W' : World} (h : RowI M zs w W) (hb : Below W.heap.size W W') : RowI M zs w W' := ⟨hp_below h.bm hb (hp_lt h.bm), h.below.trans (hb.mono h.below.size)⟩
theorem RowI.drew {M : Nat} {zs : List Int} {w W : World} (h : RowI M zs w W) : RowI M zs w W.drew := ⟨hp_drew h.bm, h.below.drew⟩
theorem RowI.put {M : Nat} {zs : List Int} {w W : World} (h : RowI M zs w W) (hM : w.heap.size ≤ M) (j : Nat) (y : Int) : RowI M (zs.set j y) w (W.setCell ⟨M, j, none⟩ (.int .i64 y)) :=
  ⟨by rw [← iv_set]; exact hp_put h.bm _ _, h.below.setCell (p := ⟨M, _, none⟩) hM _⟩
theorem RowI.ints {M : Nat} {zs : List Int} {w W : World} (h : RowI M zs w W) : IntsAt W (some ⟨M, 0, none⟩) zs :=
  .inr ⟨M, 0, rfl, hp_lt h.bm, fun j z hj => by
    rw [Nat.zero_add]
    have := hp_cell h.bm (iv_getN zs j (List.getElem?_eq_some_iff.1 hj).1)
    rwa [getD_of_get hj] at this⟩

theorem cell_heap {w w' : World} {b : Nat} (h : w'.heap[b]? = w.heap[b]?) (o : Nat) : w'.cell? ⟨b, o, none⟩ = w.cell? ⟨b, o, none⟩ := by
  simp only [World.cell?, h]
/-- A store into another block. -/
theorem ints_set {w : World} {a : Option Addr} {zs : List Int} (h : IntsAt w a zs) {M : Nat} (hne : ∀ b o, a = some ⟨b, o, none⟩ → b ≠ M) (j : Nat) (v : Value) : IntsAt (w.setCell ⟨M, j, none⟩ v) a zs := by
  rcases h with h | ⟨b, o, rfl, hlt, hc⟩
  · exact .inl h
  · have hb := hne b o rfl
    have hh := Below.heap_setCell w ⟨M, j, none⟩ v b hb
    refine .inr ⟨b, o, rfl, ?_, fun i n hi => (cell_heap hh _).trans (hc i n hi)⟩
    have : (w.setCell ⟨M, j, none⟩ v).heap.size = w.heap.size := by simp
    omega
theorem own_apart {w : World} {base M : Nat} {e : TypeId} {a : Option Addr} {n c : Nat} {xs : List Value} {sz : Nat} (h : w.ownsRow base e sz (.slice a n c) n xs) (hM : M < base) : ∀ b o, a = some ⟨b, o, none⟩ → b ≠ M := by
  intro b o ha
  rcases h.2 with ⟨he, _⟩ | ⟨g, cap, cur, he, hg, _⟩
  · injection he with h1; subst ha; cases h1
  · injection he with h1
    subst ha
    injection h1 with h1
    injection h1 with h1
    omega

end Go.Proofs.Ytmigkbimdjiigaa
