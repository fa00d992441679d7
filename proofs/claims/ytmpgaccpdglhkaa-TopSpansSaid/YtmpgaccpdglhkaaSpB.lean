/- Boxes in memory; the methods of boxes: contracts. -/
import Derived.Test.YtmpgaccpdglhkaaSpA
import Derived.Test.YtmpgaccpdglhkaaLns
set_option linter.unusedVariables false
set_option linter.unusedSimpArgs false
namespace Go.Proofs.Ytmpgaccpdglhkaa
open Go.RowKit Tinker

/-- The cells of a list of ranges. -/
def gc (b : List Rg) : List Value := b.flatMap fun x => [.int .i64 x.lo, .int .i64 x.hi]
theorem gc_cons (x : Rg) (b : List Rg) : gc (x :: b) = .int .i64 x.lo :: .int .i64 x.hi :: gc b := by simp [gc]
theorem gc_length : ∀ b : List Rg, (gc b).length = b.length * 2
  | [] => rfl
  | x :: r => by rw [gc_cons]; simp [gc_length r]; omega
theorem gc_append (a b : List Rg) : gc (a ++ b) = gc a ++ gc b := by simp [gc]
theorem gc_one (b : List Rg) : ∀ u ∈ gc b, u.oneCell' = true := by
  intro u hu
  simp only [gc, List.mem_flatMap] at hu
  obtain ⟨l, _, hu⟩ := hu
  simp only [List.mem_cons, List.not_mem_nil, or_false] at hu
  rcases hu with rfl | rfl <;> rfl
theorem gc_get : ∀ {b : List Rg} {i : Nat} {x : Rg}, b[i]? = some x → (gc b)[i * 2]? = some (.int .i64 x.lo) ∧ (gc b)[i * 2 + 1]? = some (.int .i64 x.hi)
  | [], i, x, h => by simp at h
  | y :: q, 0, x, h => by simp at h; subst h; rw [gc_cons]; simp
  | y :: q, i + 1, x, h => by
    have ih := gc_get (b := q) (i := i) (by simpa using h)
    rw [gc_cons, show (i + 1) * 2 = i * 2 + 2 by omega]
    simpa using ih
theorem gc_inv {b : List Rg} {j : Nat} {u : Value} (h : (gc b)[j]? = some u) : ∃ x, b[j / 2]? = some x ∧ ((j % 2 = 0 ∧ u = .int .i64 x.lo) ∨ (j % 2 = 1 ∧ u = .int .i64 x.hi)) := by
  have hj : j < (gc b).length := (List.getElem?_eq_some_iff.1 h).1
  rw [gc_length] at hj
  obtain ⟨x, hx⟩ := get_of_lt (show j / 2 < b.length by omega)
  refine ⟨x, hx, ?_⟩
  obtain ⟨h0, h1⟩ := gc_get hx
  have hm : j % 2 = 0 ∨ j % 2 = 1 := by omega
  rcases hm with hm | hm
  · rw [show j / 2 * 2 = j by omega, h] at h0; exact .inl ⟨hm, by simpa using h0⟩
  · rw [show j / 2 * 2 + 1 = j by omega, h] at h1; exact .inr ⟨hm, by simpa using h1⟩
theorem gc_set : ∀ {b : List Rg} {i : Nat} (x : Rg), i < b.length → gc (b.set i x) = ((gc b).set (i * 2) (.int .i64 x.lo)).set (i * 2 + 1) (.int .i64 x.hi)
  | [], i, x, h => by simp at h
  | y :: q, 0, x, h => by rw [List.set_cons_zero, gc_cons, gc_cons]; rfl
  | y :: q, i + 1, x, h => by
    have ih := gc_set (b := q) (i := i) x (by simpa using h)
    rw [List.set_cons_succ, gc_cons, gc_cons, ih, show (i + 1) * 2 = i * 2 + 2 by omega]
    rfl
/-- A box as a value. -/
def bx (b : List Rg) : Value := .agg (gc b).toArray
theorem bx_4 (x0 x1 x2 x3 : Rg) : bx [x0, x1, x2, x3] = .agg #[.int .i64 x0.lo, .int .i64 x0.hi, .int .i64 x1.lo, .int .i64 x1.hi, .int .i64 x2.lo, .int .i64 x2.hi, .int .i64 x3.lo, .int .i64 x3.hi] := rfl

/-- A slice's address leads to these ranges. -/
def RangesAt (w : World) (a : Option Addr) (b : List Rg) : Prop :=
  b = [] ∨ ∃ g off, a = some ⟨g, off, none⟩ ∧ g < w.heap.size ∧ ∀ j x, b[j]? = some x → w.cell? ⟨g, off + j * 2, none⟩ = some (.int .i64 x.lo) ∧ w.cell? ⟨g, off + j * 2 + 1, none⟩ = some (.int .i64 x.hi)
theorem RangesAt.below {w w' : World} {B : Nat} {a : Option Addr} {b : List Rg} (h : RangesAt w a b) (hb : Below B w w') (hB : w.heap.size ≤ B) : RangesAt w' a b := by
  rcases h with h | ⟨g, off, e, hlt, hc⟩
  · exact .inl h
  · refine .inr ⟨g, off, e, Nat.lt_of_lt_of_le hlt hb.size, fun j l hj => ?_⟩
    obtain ⟨h0, h1⟩ := hc j l hj
    exact ⟨(hb.cell (p := ⟨g, _, none⟩) (by show g < B; omega)).trans h0, (hb.cell (p := ⟨g, _, none⟩) (by show g < B; omega)).trans h1⟩
theorem RangesAt.at_ {w : World} {a : Option Addr} {b : List Rg} (h : RangesAt w a b) {k : Nat} (hk : k < b.length) : ∃ g off x, a = some ⟨g, off, none⟩ ∧ g < w.heap.size ∧ b[k]? = some x ∧
    w.cell? ⟨g, off + k * 2, none⟩ = some (.int .i64 x.lo) ∧ w.cell? ⟨g, off + k * 2 + 1, none⟩ = some (.int .i64 x.hi) := by
  obtain ⟨g, off, e, hlb, hc⟩ := h.resolve_left (by rintro rfl; simp at hk)
  obtain ⟨x, hx⟩ := get_of_lt hk
  exact ⟨g, off, x, e, hlb, hx, hc k x hx⟩
theorem RangesAt.cells {w : World} {a : Addr} {b : List Rg} (h : RangesAt w (some a) b) : ∀ j u, (gc b)[j]? = some u → w.cell? (a.add j) = some u := by
  intro j u hu
  obtain ⟨x, hx, hu⟩ := gc_inv hu
  obtain ⟨g, off, e, hlt, hc⟩ := h.resolve_left (by rintro rfl; simp at hx)
  injection e with e
  subst e
  obtain ⟨h0, h1⟩ := hc _ _ hx
  have ea : ∀ n, (⟨g, off, none⟩ : Addr).add n = ⟨g, off + n, none⟩ := fun n => by simp [Addr.add]
  rw [ea]
  rcases hu with ⟨hm, rfl⟩ | ⟨hm, rfl⟩
  · rw [show off + j = off + j / 2 * 2 by omega]; exact h0
  · rw [show off + j = off + j / 2 * 2 + 1 by omega]; exact h1
theorem RangesAt.none {w : World} {b : List Rg} (h : RangesAt w none b) : b = [] := h.resolve_right (by rintro ⟨g, off, e, _⟩; cases e)
theorem ranges_of_own {w : World} {base : Nat} {e : TypeId} {a : Option Addr} {n c : Nat} {b : List Rg} (h : w.ownsRow base e 2 (.slice a n c) n (gc b)) : RangesAt w a b ∧ b.length = n := by
  have hl : b.length = n := by have := h.1; rw [gc_length] at this; omega
  refine ⟨?_, hl⟩
  rcases h.2 with ⟨he, hn⟩ | ⟨g, cap, cur, he, _, hg, _, _, _, hx⟩
  · left; exact List.eq_nil_of_length_eq_zero (by omega)
  · injection he with ha hn hc
    subst ha
    right
    refine ⟨g, 0, rfl, hp_lt hg, fun j x hj => ?_⟩
    have key : ∀ k u, (gc b)[k]? = some u → w.cell? ⟨g, k, Option.none⟩ = some u := fun k u hk => by
      refine hp_cell hg ?_
      rw [← hx, List.getElem?_take] at hk
      split at hk
      · simpa using hk
      · cases hk
    rw [Nat.zero_add]
    obtain ⟨h0, h1⟩ := gc_get hj
    exact ⟨key _ _ h0, key _ _ h1⟩
/-- A new slice of ranges. -/
def GivesRg (b : List Rg) (w : World) (e : Ending) (w' : World) : Prop :=
  ∃ a c, e = .returned (.slice a b.length c) ∧ w'.ownsRow w.heap.size 52 2 (.slice a b.length c) b.length (gc b) ∧ Below w.heap.size w w'
theorem givesRg_of {w w1 : World} {v : Value} {b : List Rg} {n : Nat} (hn : b.length = n) (h : w1.ownsRow w.heap.size 52 2 v n (gc b)) (hB : Below w.heap.size w w1) : GivesRg b w (.returned v) w1 := by
  subst hn
  obtain ⟨a, c, rfl⟩ := own_slice h
  exact ⟨a, c, rfl, h, hB⟩

theorem info_box : (Try.prog.info? 69).map (·.size) = some 8 := by kernel_rfl
theorem info_range : (Try.prog.info? 52).map (fun i => (i.zero, i.size, i.bytes)) = some (some (.agg #[.int .i64 0, .int .i64 0]), 2, 16) := by kernel_rfl
theorem one8 (a b c d e f g h : Int) : (#[.int .i64 a, .int .i64 b, .int .i64 c, .int .i64 d, .int .i64 e, .int .i64 f, .int .i64 g, .int .i64 h] : Array Value).all (·.oneCell') = true := by simp [Value.oneCell']
theorem ixB0 (a b c d e f g h : Int) (w : World) : (Instr.index 69 (.agg #[.int .i64 a, .int .i64 b, .int .i64 c, .int .i64 d, .int .i64 e, .int .i64 f, .int .i64 g, .int .i64 h]) (.int .i64 0)).run Try.prog w = .ok (.agg #[.int .i64 a, .int .i64 b]) w := by kernel_rfl
theorem ixB1 (a b c d e f g h : Int) (w : World) : (Instr.index 69 (.agg #[.int .i64 a, .int .i64 b, .int .i64 c, .int .i64 d, .int .i64 e, .int .i64 f, .int .i64 g, .int .i64 h]) (.int .i64 1)).run Try.prog w = .ok (.agg #[.int .i64 c, .int .i64 d]) w := by kernel_rfl
theorem ixB2 (a b c d e f g h : Int) (w : World) : (Instr.index 69 (.agg #[.int .i64 a, .int .i64 b, .int .i64 c, .int .i64 d, .int .i64 e, .int .i64 f, .int .i64 g, .int .i64 h]) (.int .i64 2)).run Try.prog w = .ok (.agg #[.int .i64 e, .int .i64 f]) w := by kernel_rfl
theorem ixB3 (a b c d e f g h : Int) (w : World) : (Instr.index 69 (.agg #[.int .i64 a, .int .i64 b, .int .i64 c, .int .i64 d, .int .i64 e, .int .i64 f, .int .i64 g, .int .i64 h]) (.int .i64 3)).run Try.prog w = .ok (.agg #[.int .i64 g, .int .i64 h]) w := by kernel_rfl
theorem mkR4 (w : World) : (Instr.makeSlice 23 (.int .i64 4) (.int .i64 4)).run Try.prog w = .ok (.slice (some ⟨w.heap.size, 0, none⟩) 4 4) (w.alloc (.cells #[.int .i64 0, .int .i64 0, .int .i64 0, .int .i64 0, .int .i64 0, .int .i64 0, .int .i64 0, .int .i64 0] 52)) := by kernel_rfl

set_option maxRecDepth 100000 in
set_option maxHeartbeats 2000000 in
theorem boxOf_any (a : Option Addr) (ca : Nat) (b : List Rg) (w : World) (hb : RangesAt w a b) (h4 : b.length = 4) :
    Calls Try.prog 42 #[.slice a 4 ca] w fun e w' => e = .returned (bx b) ∧ Below w.heap.size w w' := by
  obtain ⟨x0, x1, x2, x3, rfl⟩ := rg_list4 h4
  rw [bx_4]
  obtain ⟨g, off, rfl, hlb, hc⟩ := hb.resolve_left (by simp)
  have q0 := hc 0 x0 rfl
  have q1 := hc 1 x1 rfl
  have q2 := hc 2 x2 rfl
  have q3 := hc 3 x3 rfl
  simp only [Nat.zero_mul, Nat.one_mul, Nat.reduceMul, Nat.add_zero] at q0 q1 q2 q3
  clear hb h4 hc
  go_enter Try.func42, Try.ntmps42
  go_wp2_with fail
  go_loopw [8] (fun s8 wr => ∃ k : Nat, k ≤ 4 ∧ s8 = .int .i64 k ∧ wr.heap[w.heap.size + 1]? = some (.cells (gc (([x0, x1, x2, x3] : List Rg).take k ++ List.replicate (4 - k) rg0)).toArray 69 (0, 0)) ∧ wr.heap[w.heap.size]? = some (.cells #[.int .i64 0, .int .i64 0, .int .i64 0, .int .i64 0, .int .i64 0, .int .i64 0, .int .i64 0, .int .i64 0] 69 (0, 0)) ∧ Below w.heap.size w wr) (fun s8 _ => 4 - (intOf s8).toNat)
  case atStart => exact ⟨0, Nat.zero_le _, rfl, hp_new (by simp), hp_alloc (hp_new rfl), (((Below.refl _ _).alloc (by first | exact Nat.le_refl _ | (simp only [World.size_alloc]; omega)) _).alloc (by first | exact Nat.le_refl _ | (simp only [World.size_alloc]; omega)) _)⟩
  case round =>
    obtain ⟨k, hk, rfl, hb1, hb0, hB⟩ := hrel
    have HB1 := Lib.hid hb1
    have HB0 := Lib.hid hb0
    have HB := Lib.hid hB
    have hlw := hp_lt hb1
    have p0 := (hB.cell (p := ⟨g, _, none⟩) hlb).trans q0.1
    have p1 := (hB.cell (p := ⟨g, _, none⟩) hlb).trans q0.2
    have p2 := (hB.cell (p := ⟨g, _, none⟩) hlb).trans q1.1
    have p3 := (hB.cell (p := ⟨g, _, none⟩) hlb).trans q1.2
    have p4 := (hB.cell (p := ⟨g, _, none⟩) hlb).trans q2.1
    have p5 := (hB.cell (p := ⟨g, _, none⟩) hlb).trans q2.2
    have p6 := (hB.cell (p := ⟨g, _, none⟩) hlb).trans q3.1
    have p7 := (hB.cell (p := ⟨g, _, none⟩) hlb).trans q3.2
    clear q0 q1 q2 q3 hb1 hb0 hB
    rcases (show k = 0 ∨ k = 1 ∨ k = 2 ∨ k = 3 ∨ k = 4 by omega) with rfl | rfl | rfl | rfl | rfl
    · rw [show ((0 : Nat) : Int) = 0 from rfl]
      have z0 := hp_cell HB1.out (j := 0) (by rfl)
      have z1 := hp_cell HB1.out (j := 1) (by rfl)
      have f0 := hp_free HB1.out 0
      have f1 := hp_free HB1.out 1
      go_wp2_with fail
      go_roundw
      case rel => exact ⟨1, by omega, rfl, hp_alloc (hp_put (hp_put HB1.out 0 _) 1 _), hp_alloc (hp_set (hp_set HB0.out (by show w.heap.size ≠ w.heap.size + 1; omega) _) (by show w.heap.size ≠ w.heap.size + 1; omega) _), ((HB.out.setCell (p := ⟨_, _, none⟩) (by show w.heap.size ≤ w.heap.size + 1; omega) _).setCell (p := ⟨_, _, none⟩) (by show w.heap.size ≤ w.heap.size + 1; omega) _).alloc (by simp only [World.size_setCell]; exact HB.out.size) _⟩
      case measure => simp [intOf]
    · rw [show ((1 : Nat) : Int) = 1 from rfl]
      have z0 := hp_cell HB1.out (j := 2) (by rfl)
      have z1 := hp_cell HB1.out (j := 3) (by rfl)
      have f0 := hp_free HB1.out 2
      have f1 := hp_free HB1.out 3
      go_wp2_with fail
      go_roundw
      case rel => exact ⟨2, by omega, rfl, hp_alloc (hp_put (hp_put HB1.out 2 _) 3 _), hp_alloc (hp_set (hp_set HB0.out (by show w.heap.size ≠ w.heap.size + 1; omega) _) (by show w.heap.size ≠ w.heap.size + 1; omega) _), ((HB.out.setCell (p := ⟨_, _, none⟩) (by show w.heap.size ≤ w.heap.size + 1; omega) _).setCell (p := ⟨_, _, none⟩) (by show w.heap.size ≤ w.heap.size + 1; omega) _).alloc (by simp only [World.size_setCell]; exact HB.out.size) _⟩
      case measure => simp [intOf]
    · rw [show ((2 : Nat) : Int) = 2 from rfl]
      have z0 := hp_cell HB1.out (j := 4) (by rfl)
      have z1 := hp_cell HB1.out (j := 5) (by rfl)
      have f0 := hp_free HB1.out 4
      have f1 := hp_free HB1.out 5
      go_wp2_with fail
      go_roundw
      case rel => exact ⟨3, by omega, rfl, hp_alloc (hp_put (hp_put HB1.out 4 _) 5 _), hp_alloc (hp_set (hp_set HB0.out (by show w.heap.size ≠ w.heap.size + 1; omega) _) (by show w.heap.size ≠ w.heap.size + 1; omega) _), ((HB.out.setCell (p := ⟨_, _, none⟩) (by show w.heap.size ≤ w.heap.size + 1; omega) _).setCell (p := ⟨_, _, none⟩) (by show w.heap.size ≤ w.heap.size + 1; omega) _).alloc (by simp only [World.size_setCell]; exact HB.out.size) _⟩
      case measure => simp [intOf]
    · rw [show ((3 : Nat) : Int) = 3 from rfl]
      have z0 := hp_cell HB1.out (j := 6) (by rfl)
      have z1 := hp_cell HB1.out (j := 7) (by rfl)
      have f0 := hp_free HB1.out 6
      have f1 := hp_free HB1.out 7
      go_wp2_with fail
      go_roundw
      case rel => exact ⟨4, by omega, rfl, hp_alloc (hp_put (hp_put HB1.out 6 _) 7 _), hp_alloc (hp_set (hp_set HB0.out (by show w.heap.size ≠ w.heap.size + 1; omega) _) (by show w.heap.size ≠ w.heap.size + 1; omega) _), ((HB.out.setCell (p := ⟨_, _, none⟩) (by show w.heap.size ≤ w.heap.size + 1; omega) _).setCell (p := ⟨_, _, none⟩) (by show w.heap.size ≤ w.heap.size + 1; omega) _).alloc (by simp only [World.size_setCell]; exact HB.out.size) _⟩
      case measure => simp [intOf]
    · rw [show ((4 : Nat) : Int) = 4 from rfl]
      replace HB1 : Hid (wr.heap[w.heap.size + 1]? = some (.cells #[.int .i64 x0.lo, .int .i64 x0.hi, .int .i64 x1.lo, .int .i64 x1.hi, .int .i64 x2.lo, .int .i64 x2.hi, .int .i64 x3.lo, .int .i64 x3.hi] 69 (0, 0))) := Lib.hid HB1.out
      go_wp2_with (first | (refine wpList_load_row rfl 69 (.tmp 3) rfl (w.heap.size + 1) rfl 69 _ (0, 0) _ HB1.out Try.underlying69 rfl info_box ?_) | (refine wpList_store_row rfl 69 (.tmp 2) (.tmp 17) rfl w.heap.size _ rfl rfl 69 _ HB0.out info_box rfl (one8 _ _ _ _ _ _ _ _) ?_))
      exact bodyPost_ret (results_cell_row (p := 2) (ty := 69) rfl _ _ (w.heap.size) 69 #[.int .i64 x0.lo, .int .i64 x0.hi, .int .i64 x1.lo, .int .i64 x1.hi, .int .i64 x2.lo, .int .i64 x2.hi, .int .i64 x3.lo, .int .i64 x3.hi] (0, 0) _ (by rfl) (hp_row_same HB0.out _) Try.underlying69 rfl info_box) rfl ⟨rfl, below_setRow HB.out (Nat.le_refl _) _⟩

set_option maxRecDepth 100000 in
set_option maxHeartbeats 2000000 in
theorem boxRanges_any (b : List Rg) (w : World) (h4 : b.length = 4) :
    Calls Try.prog 43 #[bx b] w (GivesRg b w) := by
  obtain ⟨x0, x1, x2, x3, rfl⟩ := rg_list4 h4
  rw [bx_4]
  clear h4
  have mk := fun w => mkR4 w
  go_enter Try.func43, Try.ntmps43
  go_wp2_with fail
  clear mk
  go_loopw [8] (fun s8 wr => ∃ k : Nat, k ≤ 4 ∧ s8 = .int .i64 k ∧ wr.heap[w.heap.size + 1]? = some (.cells (gc (([x0, x1, x2, x3] : List Rg).take k ++ List.replicate (4 - k) rg0)).toArray 52 (0, 0)) ∧ Below w.heap.size w wr) (fun s8 _ => 4 - (intOf s8).toNat)
  case atStart => exact ⟨0, Nat.zero_le _, rfl, hp_new (by simp), (((Below.refl _ _).alloc (by first | exact Nat.le_refl _ | (simp only [World.size_alloc]; omega)) _).alloc (by first | exact Nat.le_refl _ | (simp only [World.size_alloc]; omega)) _)⟩
  case round =>
    obtain ⟨k, hk, rfl, hb1, hB⟩ := hrel
    have HB1 := Lib.hid hb1
    have HB := Lib.hid hB
    have hlw := hp_lt hb1
    clear hb1 hB
    rcases (show k = 0 ∨ k = 1 ∨ k = 2 ∨ k = 3 ∨ k = 4 by omega) with rfl | rfl | rfl | rfl | rfl
    · rw [show ((0 : Nat) : Int) = 0 from rfl]
      have z0 := hp_cell HB1.out (j := 0) (by rfl)
      have z1 := hp_cell HB1.out (j := 1) (by rfl)
      have f0 := hp_free HB1.out 0
      have f1 := hp_free HB1.out 1
      have ix := fun w => ixB0 x0.lo x0.hi x1.lo x1.hi x2.lo x2.hi x3.lo x3.hi w
      go_wp2_with fail
      go_roundw
      case rel => exact ⟨1, by omega, rfl, hp_alloc (hp_put (hp_put HB1.out 0 _) 1 _), ((HB.out.setCell (p := ⟨_, _, none⟩) (by show w.heap.size ≤ w.heap.size + 1; omega) _).setCell (p := ⟨_, _, none⟩) (by show w.heap.size ≤ w.heap.size + 1; omega) _).alloc (by simp only [World.size_setCell]; exact HB.out.size) _⟩
      case measure => simp [intOf]
    · rw [show ((1 : Nat) : Int) = 1 from rfl]
      have z0 := hp_cell HB1.out (j := 2) (by rfl)
      have z1 := hp_cell HB1.out (j := 3) (by rfl)
      have f0 := hp_free HB1.out 2
      have f1 := hp_free HB1.out 3
      have ix := fun w => ixB1 x0.lo x0.hi x1.lo x1.hi x2.lo x2.hi x3.lo x3.hi w
      go_wp2_with fail
      go_roundw
      case rel => exact ⟨2, by omega, rfl, hp_alloc (hp_put (hp_put HB1.out 2 _) 3 _), ((HB.out.setCell (p := ⟨_, _, none⟩) (by show w.heap.size ≤ w.heap.size + 1; omega) _).setCell (p := ⟨_, _, none⟩) (by show w.heap.size ≤ w.heap.size + 1; omega) _).alloc (by simp only [World.size_setCell]; exact HB.out.size) _⟩
      case measure => simp [intOf]
    · rw [show ((2 : Nat) : Int) = 2 from rfl]
      have z0 := hp_cell HB1.out (j := 4) (by rfl)
      have z1 := hp_cell HB1.out (j := 5) (by rfl)
      have f0 := hp_free HB1.out 4
      have f1 := hp_free HB1.out 5
      have ix := fun w => ixB2 x0.lo x0.hi x1.lo x1.hi x2.lo x2.hi x3.lo x3.hi w
      go_wp2_with fail
      go_roundw
      case rel => exact ⟨3, by omega, rfl, hp_alloc (hp_put (hp_put HB1.out 4 _) 5 _), ((HB.out.setCell (p := ⟨_, _, none⟩) (by show w.heap.size ≤ w.heap.size + 1; omega) _).setCell (p := ⟨_, _, none⟩) (by show w.heap.size ≤ w.heap.size + 1; omega) _).alloc (by simp only [World.size_setCell]; exact HB.out.size) _⟩
      case measure => simp [intOf]
    · rw [show ((3 : Nat) : Int) = 3 from rfl]
      have z0 := hp_cell HB1.out (j := 6) (by rfl)
      have z1 := hp_cell HB1.out (j := 7) (by rfl)
      have f0 := hp_free HB1.out 6
      have f1 := hp_free HB1.out 7
      have ix := fun w => ixB3 x0.lo x0.hi x1.lo x1.hi x2.lo x2.hi x3.lo x3.hi w
      go_wp2_with fail
      go_roundw
      case rel => exact ⟨4, by omega, rfl, hp_alloc (hp_put (hp_put HB1.out 6 _) 7 _), ((HB.out.setCell (p := ⟨_, _, none⟩) (by show w.heap.size ≤ w.heap.size + 1; omega) _).setCell (p := ⟨_, _, none⟩) (by show w.heap.size ≤ w.heap.size + 1; omega) _).alloc (by simp only [World.size_setCell]; exact HB.out.size) _⟩
      case measure => simp [intOf]
    · rw [show ((4 : Nat) : Int) = 4 from rfl]
      go_wp2_with fail
      go_ret
      exact ⟨_, 4, rfl, ⟨rfl, .inr ⟨w.heap.size + 1, 4, _, rfl, by omega, HB1.out, Nat.le_refl _, by decide, rfl, rfl⟩⟩, HB.out⟩

set_option maxRecDepth 100000 in
set_option maxHeartbeats 4000000 in
theorem boxBetween_any (a1 a2 : Option Addr) (c1 c2 : Nat) (lo hi : List Int) (w : World) (hl : IntsAt w a1 lo) (hh : IntsAt w a2 hi) (h4 : lo.length = 4) (k4 : hi.length = 4) :
    Calls Try.prog 56 #[.slice a1 4 c1, .slice a2 4 c2] w fun e w' => e = .returned (bx (conB lo hi)) ∧ Below w.heap.size w w' := by
  obtain ⟨l0, l1, l2, l3, rfl⟩ := int_list4 h4
  obtain ⟨h0, h1, h2, h3, rfl⟩ := int_list4 k4
  obtain ⟨x0, hx0⟩ : ∃ x : Rg, x = ⟨l0, h0⟩ := ⟨_, rfl⟩
  obtain ⟨x1, hx1⟩ : ∃ x : Rg, x = ⟨l1, h1⟩ := ⟨_, rfl⟩
  obtain ⟨x2, hx2⟩ : ∃ x : Rg, x = ⟨l2, h2⟩ := ⟨_, rfl⟩
  obtain ⟨x3, hx3⟩ : ∃ x : Rg, x = ⟨l3, h3⟩ := ⟨_, rfl⟩
  rw [show conB [l0, l1, l2, l3] [h0, h1, h2, h3] = [x0, x1, x2, x3] by rw [hx0, hx1, hx2, hx3]; rfl, bx_4]
  obtain rfl : l0 = x0.lo := by rw [hx0]
  obtain rfl : h0 = x0.hi := by rw [hx0]
  obtain rfl : l1 = x1.lo := by rw [hx1]
  obtain rfl : h1 = x1.hi := by rw [hx1]
  obtain rfl : l2 = x2.lo := by rw [hx2]
  obtain rfl : h2 = x2.hi := by rw [hx2]
  obtain rfl : l3 = x3.lo := by rw [hx3]
  obtain rfl : h3 = x3.hi := by rw [hx3]
  clear hx0 hx1 hx2 hx3
  obtain ⟨g, off, rfl, hlb, hc⟩ := hl.resolve_left (by simp)
  obtain ⟨g', off', rfl, hlb', hc'⟩ := hh.resolve_left (by simp)
  have q0 := hc 0 x0.lo rfl
  have q1 := hc 1 x1.lo rfl
  have q2 := hc 2 x2.lo rfl
  have q3 := hc 3 x3.lo rfl
  have r0 := hc' 0 x0.hi rfl
  have r1 := hc' 1 x1.hi rfl
  have r2 := hc' 2 x2.hi rfl
  have r3 := hc' 3 x3.hi rfl
  simp only [Nat.add_zero] at q0 r0
  clear hl hh h4 k4 hc hc'
  go_enter Try.func56, Try.ntmps56
  go_wp2_with fail
  go_loopw [7] (fun s7 wr => ∃ k : Nat, k ≤ 4 ∧ s7 = .int .i64 k ∧ wr.heap[w.heap.size + 1]? = some (.cells (gc (([x0, x1, x2, x3] : List Rg).take k ++ List.replicate (4 - k) rg0)).toArray 69 (0, 0)) ∧ wr.heap[w.heap.size]? = some (.cells #[.int .i64 0, .int .i64 0, .int .i64 0, .int .i64 0, .int .i64 0, .int .i64 0, .int .i64 0, .int .i64 0] 69 (0, 0)) ∧ Below w.heap.size w wr) (fun s7 _ => 4 - (intOf s7).toNat)
  case atStart => exact ⟨0, Nat.zero_le _, rfl, hp_new (by simp), hp_alloc (hp_new rfl), (((Below.refl _ _).alloc (by first | exact Nat.le_refl _ | (simp only [World.size_alloc]; omega)) _).alloc (by first | exact Nat.le_refl _ | (simp only [World.size_alloc]; omega)) _)⟩
  case round =>
    obtain ⟨k, hk, rfl, hb1, hb0, hB⟩ := hrel
    have HB1 := Lib.hid hb1
    have HB0 := Lib.hid hb0
    have HB := Lib.hid hB
    have hlw := hp_lt hb1
    have p0 := (hB.cell (p := ⟨g, _, none⟩) hlb).trans q0
    have s0 := (hB.cell (p := ⟨g', _, none⟩) hlb').trans r0
    have p1 := (hB.cell (p := ⟨g, _, none⟩) hlb).trans q1
    have s1 := (hB.cell (p := ⟨g', _, none⟩) hlb').trans r1
    have p2 := (hB.cell (p := ⟨g, _, none⟩) hlb).trans q2
    have s2 := (hB.cell (p := ⟨g', _, none⟩) hlb').trans r2
    have p3 := (hB.cell (p := ⟨g, _, none⟩) hlb).trans q3
    have s3 := (hB.cell (p := ⟨g', _, none⟩) hlb').trans r3
    clear q0 q1 q2 q3 r0 r1 r2 r3 hb1 hb0 hB
    rcases (show k = 0 ∨ k = 1 ∨ k = 2 ∨ k = 3 ∨ k = 4 by omega) with rfl | rfl | rfl | rfl | rfl
    · rw [show ((0 : Nat) : Int) = 0 from rfl]
      clear p1 s1 p2 s2 p3 s3
      have z0 := hp_cell HB1.out (j := 0) (by rfl)
      have z1 := hp_cell HB1.out (j := 1) (by rfl)
      have f0 := hp_free HB1.out 0
      have f1 := hp_free HB1.out 1
      go_wp2_with fail
      go_region
      all_goals go_wp2_with fail
      all_goals go_roundw
      case rel => exact ⟨1, by omega, rfl, hp_drew (hp_put (hp_put HB1.out 0 _) 1 _), hp_drew (hp_set (hp_set HB0.out (by show w.heap.size ≠ w.heap.size + 1; omega) _) (by show w.heap.size ≠ w.heap.size + 1; omega) _), ((HB.out.setCell (p := ⟨_, _, none⟩) (by show w.heap.size ≤ w.heap.size + 1; omega) _).setCell (p := ⟨_, _, none⟩) (by show w.heap.size ≤ w.heap.size + 1; omega) _).drew⟩
      case measure => simp [intOf]
    · rw [show ((1 : Nat) : Int) = 1 from rfl]
      clear p0 s0 p2 s2 p3 s3
      have z0 := hp_cell HB1.out (j := 2) (by rfl)
      have z1 := hp_cell HB1.out (j := 3) (by rfl)
      have f0 := hp_free HB1.out 2
      have f1 := hp_free HB1.out 3
      go_wp2_with fail
      go_region
      all_goals go_wp2_with fail
      all_goals go_roundw
      case rel => exact ⟨2, by omega, rfl, hp_drew (hp_put (hp_put HB1.out 2 _) 3 _), hp_drew (hp_set (hp_set HB0.out (by show w.heap.size ≠ w.heap.size + 1; omega) _) (by show w.heap.size ≠ w.heap.size + 1; omega) _), ((HB.out.setCell (p := ⟨_, _, none⟩) (by show w.heap.size ≤ w.heap.size + 1; omega) _).setCell (p := ⟨_, _, none⟩) (by show w.heap.size ≤ w.heap.size + 1; omega) _).drew⟩
      case measure => simp [intOf]
    · rw [show ((2 : Nat) : Int) = 2 from rfl]
      clear p0 s0 p1 s1 p3 s3
      have z0 := hp_cell HB1.out (j := 4) (by rfl)
      have z1 := hp_cell HB1.out (j := 5) (by rfl)
      have f0 := hp_free HB1.out 4
      have f1 := hp_free HB1.out 5
      go_wp2_with fail
      go_region
      all_goals go_wp2_with fail
      all_goals go_roundw
      case rel => exact ⟨3, by omega, rfl, hp_drew (hp_put (hp_put HB1.out 4 _) 5 _), hp_drew (hp_set (hp_set HB0.out (by show w.heap.size ≠ w.heap.size + 1; omega) _) (by show w.heap.size ≠ w.heap.size + 1; omega) _), ((HB.out.setCell (p := ⟨_, _, none⟩) (by show w.heap.size ≤ w.heap.size + 1; omega) _).setCell (p := ⟨_, _, none⟩) (by show w.heap.size ≤ w.heap.size + 1; omega) _).drew⟩
      case measure => simp [intOf]
    · rw [show ((3 : Nat) : Int) = 3 from rfl]
      clear p0 s0 p1 s1 p2 s2
      have z0 := hp_cell HB1.out (j := 6) (by rfl)
      have z1 := hp_cell HB1.out (j := 7) (by rfl)
      have f0 := hp_free HB1.out 6
      have f1 := hp_free HB1.out 7
      go_wp2_with fail
      go_region
      all_goals go_wp2_with fail
      all_goals go_roundw
      case rel => exact ⟨4, by omega, rfl, hp_drew (hp_put (hp_put HB1.out 6 _) 7 _), hp_drew (hp_set (hp_set HB0.out (by show w.heap.size ≠ w.heap.size + 1; omega) _) (by show w.heap.size ≠ w.heap.size + 1; omega) _), ((HB.out.setCell (p := ⟨_, _, none⟩) (by show w.heap.size ≤ w.heap.size + 1; omega) _).setCell (p := ⟨_, _, none⟩) (by show w.heap.size ≤ w.heap.size + 1; omega) _).drew⟩
      case measure => simp [intOf]
    · rw [show ((4 : Nat) : Int) = 4 from rfl]
      clear p0 p1 p2 p3 s0 s1 s2 s3
      replace HB1 : Hid (wr.heap[w.heap.size + 1]? = some (.cells #[.int .i64 x0.lo, .int .i64 x0.hi, .int .i64 x1.lo, .int .i64 x1.hi, .int .i64 x2.lo, .int .i64 x2.hi, .int .i64 x3.lo, .int .i64 x3.hi] 69 (0, 0))) := Lib.hid HB1.out
      go_wp2_with (first | (refine wpList_load_row rfl 69 (.tmp 5) rfl (w.heap.size + 1) rfl 69 _ (0, 0) _ HB1.out Try.underlying69 rfl info_box ?_) | (refine wpList_store_row rfl 69 (.tmp 4) (.tmp 22) rfl w.heap.size _ rfl rfl 69 _ HB0.out info_box rfl (one8 _ _ _ _ _ _ _ _) ?_))
      exact bodyPost_ret (results_cell_row (p := 4) (ty := 69) rfl _ _ (w.heap.size) 69 #[.int .i64 x0.lo, .int .i64 x0.hi, .int .i64 x1.lo, .int .i64 x1.hi, .int .i64 x2.lo, .int .i64 x2.hi, .int .i64 x3.lo, .int .i64 x3.hi] (0, 0) _ (by rfl) (hp_row_same HB0.out _) Try.underlying69 rfl info_box) rfl ⟨rfl, below_setRow HB.out (Nat.le_refl _) _⟩

set_option maxRecDepth 100000 in
set_option maxHeartbeats 2000000 in
theorem boxWith_any (b : List Rg) (r : Int) (x : Rg) (w : World) (h4 : b.length = 4) (h0 : 0 ≤ r) (h3 : r ≤ 3) :
    Calls Try.prog 62 #[bx b, .int .i64 r, gv x] w fun e w' => e = .returned (bx (b.set r.toNat x)) ∧ Below w.heap.size w w' := by
  obtain ⟨x0, x1, x2, x3, rfl⟩ := rg_list4 h4
  rw [bx_4]
  unfold gv
  clear h4
  rcases (show r = 0 ∨ r = 1 ∨ r = 2 ∨ r = 3 by omega) with rfl | rfl | rfl | rfl
  · rw [show ([x0, x1, x2, x3] : List Rg).set ((0 : Int)).toNat x = [x, x1, x2, x3] from rfl, bx_4]
    clear h0 h3
    go_enter Try.func62, Try.ntmps62
    go_wp2
    exact bodyPost_ret (results_cell_row (p := 6) (ty := 69) rfl _ _ (w.heap.size + 1 + 1) 69 #[.int .i64 x.lo, .int .i64 x.hi, .int .i64 x1.lo, .int .i64 x1.hi, .int .i64 x2.lo, .int .i64 x2.hi, .int .i64 x3.lo, .int .i64 x3.hi] (0, 0) _ (by rfl) (hp_new (by simp)) Try.underlying69 rfl info_box) rfl ⟨rfl, ((((Below.refl _ _).alloc (by first | exact Nat.le_refl _ | (simp only [World.size_alloc]; omega)) _).alloc (by first | exact Nat.le_refl _ | (simp only [World.size_alloc]; omega)) _).alloc (by first | exact Nat.le_refl _ | (simp only [World.size_alloc]; omega)) _)⟩
  · rw [show ([x0, x1, x2, x3] : List Rg).set ((1 : Int)).toNat x = [x0, x, x2, x3] from rfl, bx_4]
    clear h0 h3
    go_enter Try.func62, Try.ntmps62
    go_wp2
    exact bodyPost_ret (results_cell_row (p := 6) (ty := 69) rfl _ _ (w.heap.size + 1 + 1) 69 #[.int .i64 x0.lo, .int .i64 x0.hi, .int .i64 x.lo, .int .i64 x.hi, .int .i64 x2.lo, .int .i64 x2.hi, .int .i64 x3.lo, .int .i64 x3.hi] (0, 0) _ (by rfl) (hp_new (by simp)) Try.underlying69 rfl info_box) rfl ⟨rfl, ((((Below.refl _ _).alloc (by first | exact Nat.le_refl _ | (simp only [World.size_alloc]; omega)) _).alloc (by first | exact Nat.le_refl _ | (simp only [World.size_alloc]; omega)) _).alloc (by first | exact Nat.le_refl _ | (simp only [World.size_alloc]; omega)) _)⟩
  · rw [show ([x0, x1, x2, x3] : List Rg).set ((2 : Int)).toNat x = [x0, x1, x, x3] from rfl, bx_4]
    clear h0 h3
    go_enter Try.func62, Try.ntmps62
    go_wp2
    exact bodyPost_ret (results_cell_row (p := 6) (ty := 69) rfl _ _ (w.heap.size + 1 + 1) 69 #[.int .i64 x0.lo, .int .i64 x0.hi, .int .i64 x1.lo, .int .i64 x1.hi, .int .i64 x.lo, .int .i64 x.hi, .int .i64 x3.lo, .int .i64 x3.hi] (0, 0) _ (by rfl) (hp_new (by simp)) Try.underlying69 rfl info_box) rfl ⟨rfl, ((((Below.refl _ _).alloc (by first | exact Nat.le_refl _ | (simp only [World.size_alloc]; omega)) _).alloc (by first | exact Nat.le_refl _ | (simp only [World.size_alloc]; omega)) _).alloc (by first | exact Nat.le_refl _ | (simp only [World.size_alloc]; omega)) _)⟩
  · rw [show ([x0, x1, x2, x3] : List Rg).set ((3 : Int)).toNat x = [x0, x1, x2, x] from rfl, bx_4]
    clear h0 h3
    go_enter Try.func62, Try.ntmps62
    go_wp2
    exact bodyPost_ret (results_cell_row (p := 6) (ty := 69) rfl _ _ (w.heap.size + 1 + 1) 69 #[.int .i64 x0.lo, .int .i64 x0.hi, .int .i64 x1.lo, .int .i64 x1.hi, .int .i64 x2.lo, .int .i64 x2.hi, .int .i64 x.lo, .int .i64 x.hi] (0, 0) _ (by rfl) (hp_new (by simp)) Try.underlying69 rfl info_box) rfl ⟨rfl, ((((Below.refl _ _).alloc (by first | exact Nat.le_refl _ | (simp only [World.size_alloc]; omega)) _).alloc (by first | exact Nat.le_refl _ | (simp only [World.size_alloc]; omega)) _).alloc (by first | exact Nat.le_refl _ | (simp only [World.size_alloc]; omega)) _)⟩

end Go.Proofs.Ytmpgaccpdglhkaa
