/- Several texts in one. -/
import Derived.Test.YtikblaebfpdngaaPtW
import Derived.Test.YtikblaebfpdngaaEdO
import Derived.Test.YtikblaebfpdngaaPtS
import Derived.Maps.OwnSet
import Derived.Test.YtikblaebfpdngaaPtD
import Derived.Maps.OwnOps
/- Edits in a map: plain mathematics, and the laws of the map at the operations. -/
set_option linter.unusedVariables false
set_option linter.unusedSimpArgs false
namespace Tinker
/-- The last line of edits at a place. -/
def lastX (l : List E) (i : Int) : Option L := atX l.reverse i
theorem lastX_nil (i : Int) : lastX [] i = none := rfl
theorem lastX_snoc (l : List E) (e : E) (i : Int) : lastX (l ++ [e]) i = if e.at_ = i then some e.ln else lastX l i := by
  unfold lastX
  rw [List.reverse_append]
  exact atX_cons e l.reverse i
def c1 (b : Bool) : Nat := if b then 1 else 0
/-- At how many places there is a line. -/
def cnt8 (f : Int → Option L) : Nat := c1 (f 0).isSome + c1 (f 1).isSome + c1 (f 2).isSome + c1 (f 3).isSome + c1 (f 4).isSome + c1 (f 5).isSome + c1 (f 6).isSome + c1 (f 7).isSome
theorem cnt8_put {f g : Int → Option L} {j : Int} {l : L} (hg : ∀ i, g i = if j = i then some l else f i) (h0 : 0 ≤ j) (h7 : j ≤ 7) : cnt8 g = if (f j).isSome = true then cnt8 f else cnt8 f + 1 := by
  have hj : j = 0 ∨ j = 1 ∨ j = 2 ∨ j = 3 ∨ j = 4 ∨ j = 5 ∨ j = 6 ∨ j = 7 := by omega
  unfold cnt8
  rw [hg 0, hg 1, hg 2, hg 3, hg 4, hg 5, hg 6, hg 7]
  rcases hj with rfl | rfl | rfl | rfl | rfl | rfl | rfl | rfl
  · cases h : f 0 <;> simp [h, c1] <;> omega
  · cases h : f 1 <;> simp [h, c1] <;> omega
  · cases h : f 2 <;> simp [h, c1] <;> omega
  · cases h : f 3 <;> simp [h, c1] <;> omega
  · cases h : f 4 <;> simp [h, c1] <;> omega
  · cases h : f 5 <;> simp [h, c1] <;> omega
  · cases h : f 6 <;> simp [h, c1] <;> omega
  · cases h : f 7 <;> simp [h, c1] <;> omega
theorem cnt8_le (f : Int → Option L) : cnt8 f ≤ 8 := by
  have h : ∀ b, c1 b ≤ 1 := fun b => by cases b <;> decide
  unfold cnt8
  have := h (f 0).isSome; have := h (f 1).isSome; have := h (f 2).isSome; have := h (f 3).isSome; have := h (f 4).isSome; have := h (f 5).isSome; have := h (f 6).isSome; have := h (f 7).isSome
  omega
/-- The edits of the first k places. -/
def mpTo (f : Int → Option L) (k : Nat) : List E := (List.range k).filterMap fun i : Nat => (f i).map fun l => ⟨(i : Int), l⟩
def mpL (f : Int → Option L) : List E := mpTo f 8
theorem mpTo_yes {f : Int → Option L} {k : Nat} {l : L} (h : f k = some l) : mpTo f (k + 1) = mpTo f k ++ [⟨(k : Int), l⟩] := by
  unfold mpTo
  rw [List.range_succ, List.filterMap_append]
  simp [h]
theorem mpTo_no {f : Int → Option L} {k : Nat} (h : f k = none) : mpTo f (k + 1) = mpTo f k := by
  unfold mpTo
  rw [List.range_succ, List.filterMap_append]
  simp [h]
theorem mpTo_len (f : Int → Option L) : ∀ k, (mpTo f k).length ≤ k
  | 0 => by simp [mpTo]
  | k + 1 => by
    have ih := mpTo_len f k
    cases h : f k with
    | none => rw [mpTo_no h]; omega
    | some l => rw [mpTo_yes h, List.length_append, List.length_singleton]; omega
theorem mpL_mem {f : Int → Option L} {e : E} : e ∈ mpL f ↔ (0 ≤ e.at_ ∧ e.at_ ≤ 7) ∧ f e.at_ = some e.ln := by
  unfold mpL mpTo
  rw [List.mem_filterMap]
  constructor
  · rintro ⟨i, hi, he⟩
    rw [Option.map_eq_some_iff] at he
    obtain ⟨l, hl, rfl⟩ := he
    have := List.mem_range.1 hi
    exact ⟨⟨by show (0 : Int) ≤ (i : Int); omega, by show (i : Int) ≤ 7; omega⟩, hl⟩
  · rintro ⟨⟨h0, h7⟩, hf⟩
    refine ⟨e.at_.toNat, List.mem_range.2 (by omega), ?_⟩
    rw [show ((e.at_.toNat : Nat) : Int) = e.at_ by omega, hf]
    rfl
theorem mpL_dist (f : Int → Option L) : dist (mpL f) := by
  unfold dist mpL mpTo
  rw [List.pairwise_filterMap]
  refine List.pairwise_lt_range.imp fun {a b} hab x hx y hy => ?_
  rw [Option.map_eq_some_iff] at hx hy
  obtain ⟨_, _, rfl⟩ := hx
  obtain ⟨_, _, rfl⟩ := hy
  show (a : Int) < (b : Int)
  omega
end Tinker
namespace Go.Proofs.Ytikblaebfpdngaa
open Go.RowKit Go.Maps Tinker

theorem lawI : Keyed Try.prog 3 := int_keyed Try.underlying3
theorem zeroL (w : World) : (zeroValue 33).run Try.prog w = .ok (.agg #[.int .i64 0, .int .i64 0, .int .i64 0, .int .i64 0]) w := by kernel_rfl
/-- An element reads as itself. -/
def rV (v : Value) : Option (DataW Value × List MemPlace) := some (.held v, [])
def fV : Option L → Value
  | none => .agg #[.int .i64 0, .int .i64 0, .int .i64 0, .int .i64 0]
  | some l => lv l
def kI (i : Int) : Lit := .int .i64 i
/-- The block b is a map of these lines. -/
def MapI (W : World) (b : Nat) (f : Int → Option L) : Prop := ∃ (D : DataW Value) (m : Nat), W.ownsMap Try.prog 3 rV b m D ∧ m ≤ 100 ∧ (∀ i : Int, 0 ≤ i → i ≤ 7 → D.atKey (kI i) (.held (fV none)) = .held (fV (f i)) ∧ Maps.has D (kI i) = (f i).isSome) ∧ Maps.size D = cnt8 f
theorem wfI {i : Int} (h0 : 0 ≤ i) (h7 : i ≤ 7) : (Lit.int .i64 i).wf = true := WalkArith.wf_i64 (by omega)
theorem keyI {i : Int} (h0 : 0 ≤ i) (h7 : i ≤ 7) : keyOf Try.prog 3 (.int .i64 i) = some (kI i) := keyOf_int_mk Try.underlying3 (wfI h0 h7)
theorem MapI.new (w : World) : MapI (w.alloc (.map #[] 0)) w.heap.size (fun _ => none) :=
  ⟨_, 0, World.ownsMap_made w Try.prog 3 rV, by omega, fun i _ _ => ⟨rfl, rfl⟩, rfl⟩
theorem MapI.low {W W' : World} {b : Nat} {f : Int → Option L} (h : MapI W b f) (hB : Below W.heap.size W W') : MapI W' b f := by
  obtain ⟨D, m, h1, h2, h3, h4⟩ := h
  exact ⟨D, m, h1.kept (row := none) ⟨hB.os, hB.tape, hB.output, hB.size, fun k hk _ => hB.block k hk⟩ (by simp), h2, h3, h4⟩
theorem MapI.lt {W : World} {b : Nat} {f : Int → Option L} (h : MapI W b f) : b < W.heap.size := by obtain ⟨D, m, h1, _⟩ := h; exact h1.lt
theorem kI_ne {i j : Int} (h : i ≠ j) : kI i ≠ kI j := fun e => h (by unfold kI at e; injection e)

theorem own_tight {W : World} {b n : Nat} {D : DataW Value} (h : W.ownsMap Try.prog 3 rV b n D) : W.ownsMap Try.prog 3 rV b (Maps.size D) D := by
  obtain ⟨es, clock, h1, h2, h3, rfl⟩ := h
  exact ⟨es, clock, h1, h2, by rw [size_eq, length_read]; exact Nat.le_refl _, rfl⟩

end Go.Proofs.Ytikblaebfpdngaa

/- editsOf and patch of edits: contracts. -/
set_option linter.unusedVariables false
set_option linter.unusedSimpArgs false
namespace Go.Proofs.Ytikblaebfpdngaa
open Go.RowKit Go.Maps Tinker

theorem fV_some (l : L) : fV (some l) = .agg #[.int .i64 l.op, .int .i64 l.to, .int .i64 l.a, .int .i64 l.b] := rfl
theorem fV_none : fV none = .agg #[.int .i64 0, .int .i64 0, .int .i64 0, .int .i64 0] := rfl

end Go.Proofs.Ytikblaebfpdngaa
