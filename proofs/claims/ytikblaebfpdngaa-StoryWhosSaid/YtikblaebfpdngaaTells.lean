/- Several texts in one. -/
import Derived.Test.YtikblaebfpdngaaChkP
import Derived.Test.YtikblaebfpdngaaRSl
/- which, with each of its three functions; Passing, Failing, Tells of check: contracts. -/
set_option linter.unusedVariables false
set_option linter.unusedSimpArgs false
namespace Go.Proofs.Ytikblaebfpdngaa
open Go.RowKit Tinker

/-- What has been asked of the first k. -/
def heldTo (f : T → Bool) (ts : List T) : Nat → List Bool
  | 0 => List.replicate ts.length false
  | k + 1 => match ts[k]? with
    | none => heldTo f ts k
    | some t => (heldTo f ts k).set k (f t)
theorem heldTo_length (f : T → Bool) (ts : List T) : ∀ k, (heldTo f ts k).length = ts.length
  | 0 => by simp [heldTo]
  | k + 1 => by
    rw [heldTo]
    split
    · exact heldTo_length f ts k
    · rw [List.length_set]; exact heldTo_length f ts k
theorem heldTo_succ {f : T → Bool} {ts : List T} {k : Nat} {t : T} (h : ts[k]? = some t) : heldTo f ts (k + 1) = (heldTo f ts k).set k (f t) := by rw [heldTo]; simp only [h]
theorem heldTo_get (f : T → Bool) (ts : List T) : ∀ k j, j < k → k ≤ ts.length → (heldTo f ts k)[j]? = (ts.map f)[j]?
  | 0, j, h, _ => by omega
  | k + 1, j, h, hk => by
    obtain ⟨t, ht⟩ := get_of_lt (show k < ts.length by omega)
    rw [heldTo_succ ht, List.getElem?_set, heldTo_length]
    by_cases e : k = j
    · subst e; rw [if_pos rfl, if_pos (by omega), List.getElem?_map, ht]; rfl
    · rw [if_neg e]; exact heldTo_get f ts k j (by omega) (by omega)
theorem heldTo_whole (f : T → Bool) (ts : List T) : heldTo f ts ts.length = ts.map f := by
  refine List.ext_getElem? fun j => ?_
  rcases Nat.lt_or_ge j ts.length with h | h
  · exact heldTo_get f ts _ j h (Nat.le_refl _)
  · rw [List.getElem?_eq_none (by rw [heldTo_length]; omega), List.getElem?_eq_none (by simpa using h)]

/-- A block of bools. -/
structure BlkB (M : Nat) (bs : List Bool) (w W : World) : Prop where
  bm : W.heap[M]? = some (.cells (bv bs) 4 (0, 0))
  below : Below w.heap.size w W
theorem BlkB.low {M : Nat} {bs : List Bool} {w W W' : World} (h : BlkB M bs w W) (hb : Below W.heap.size W W') : BlkB M bs w W' := ⟨hp_below h.bm hb (hp_lt h.bm), h.below.trans (hb.mono h.below.size)⟩
theorem BlkB.drew {M : Nat} {bs : List Bool} {w W : World} (h : BlkB M bs w W) : BlkB M bs w W.drew := ⟨hp_drew h.bm, h.below.drew⟩
theorem BlkB.put {M : Nat} {bs : List Bool} {w W : World} (h : BlkB M bs w W) (hM : w.heap.size ≤ M) (j : Nat) (y : Bool) : BlkB M (bs.set j y) w (W.setCell ⟨M, j, none⟩ (.bool y)) :=
  ⟨by rw [← bv_set]; exact hp_put h.bm _ _, h.below.setCell (p := ⟨M, _, none⟩) hM _⟩
theorem BlkB.bools {M : Nat} {bs : List Bool} {w W : World} (h : BlkB M bs w W) : BoolsAt W M 0 bs := fun j n hj => by
  rw [Nat.zero_add]
  have := hp_cell h.bm (bv_get bs j (List.getElem?_eq_some_iff.1 hj).1)
  rwa [getD_of_get hj] at this

/-- What Passing (true) and Failing (false) answer. -/
def pL (b : Bool) (ps : List L) (ts : List T) : List Int := if vpt ps ts = 0 then plc (ts.map fun t => pas ps t == b) else []
theorem pL_ok {b : Bool} {ps : List L} {ts : List T} (h : vpt ps ts = 0) : pL b ps ts = plc (ts.map fun t => pas ps t == b) := by unfold pL; rw [if_pos h]
theorem pL_no {b : Bool} {ps : List L} {ts : List T} (h : vpt ps ts ≠ 0) : pL b ps ts = [] := by unfold pL; rw [if_neg h]

end Go.Proofs.Ytikblaebfpdngaa

/- Tells of check: contract. -/
set_option linter.unusedVariables false
set_option linter.unusedSimpArgs false
namespace Go.Proofs.Ytikblaebfpdngaa
open Go.RowKit Tinker

/-- The errors of two programs and tests. -/
def vpqt (ps qs : List L) (ts : List T) : Int := fe (vp ps) (vpt qs ts)
theorem vpqt_L (ps qs : List L) (ts : List T) : feL [vp ps, vp qs, vts ts] = vpqt ps qs ts := by
  unfold vpqt vpt fe
  simp only [feL]
  split
  · split
    · split
      · rename_i h; exact h.symm
      · rfl
    · rfl
  · rfl
theorem vpqt_ok {ps qs : List L} {ts : List T} (h : vpqt ps qs ts = 0) : vp ps = 0 ∧ vp qs = 0 ∧ vts ts = 0 := by
  unfold vpqt fe at h
  split at h
  · exact ⟨by assumption, vpt_ok h⟩
  · exact absurd h (by assumption)
theorem vpqt_mk {ps qs : List L} {ts : List T} (h1 : vp ps = 0) (h2 : vp qs = 0) (h3 : vts ts = 0) : vpqt ps qs ts = 0 := by unfold vpqt vpt fe; rw [if_pos h1, if_pos h2]; exact h3
/-- What Tells answers. -/
def tL (ps qs : List L) (ts : List T) : List Int := if vpqt ps qs ts = 0 then plc (ts.map fun t => endP ps t.inn t.out != endP qs t.inn t.out) else []
theorem tL_ok {ps qs : List L} {ts : List T} (h : vpqt ps qs ts = 0) : tL ps qs ts = plc (ts.map fun t => endP ps t.inn t.out != endP qs t.inn t.out) := by unfold tL; rw [if_pos h]
theorem tL_no {ps qs : List L} {ts : List T} (h : vpqt ps qs ts ≠ 0) : tL ps qs ts = [] := by unfold tL; rw [if_neg h]
theorem tL_swap {ps qs : List L} {ts : List T} (h : vpqt ps qs ts = 0) : vpqt qs ps ts = 0 ∧ tL qs ps ts = tL ps qs ts := by
  obtain ⟨h1, h2, h3⟩ := vpqt_ok h
  have h' := vpqt_mk h2 h1 h3
  refine ⟨h', ?_⟩
  rw [tL_ok h, tL_ok h']
  congr 1
  refine List.map_congr_left fun t _ => ?_
  rw [Bool.eq_iff_iff, bne_iff_ne, bne_iff_ne]
  exact ⟨fun h => h.symm, fun h => h.symm⟩
theorem tL_le (ps qs : List L) (ts : List T) : (tL ps qs ts).length ≤ ts.length := by
  unfold tL
  split
  · have := plcTo_length (ts.map fun t => endP ps t.inn t.out != endP qs t.inn t.out) (ts.map fun t => endP ps t.inn t.out != endP qs t.inn t.out).length
    unfold plc
    simp only [List.length_map] at this ⊢
    exact this
  · simp
theorem ints_three (w : World) (c d x : Int) (t : TypeId) : IntsAt (w.alloc (.cells #[.int .i64 c, .int .i64 d, .int .i64 x] t)) (some ⟨w.heap.size, 0, none⟩) [c, d, x] := by
  refine .inr ⟨w.heap.size, 0, rfl, by simp, fun j n hj => ?_⟩
  match j, hj with
  | 0, hj => simp at hj; subst hj; exact hp_cell (heap_new w _) (by simp)
  | 1, hj => simp at hj; subst hj; exact hp_cell (heap_new w _) (by simp)
  | 2, hj => simp at hj; subst hj; exact hp_cell (heap_new w _) (by simp)
  | j + 3, hj => simp at hj
theorem firstError3_at (b : Nat) (W : World) (c d x : Int) (h : IntsAt W (some ⟨b, 0, none⟩) [c, d, x]) : Calls Try.prog 79 #[.slice (some ⟨b, 0, none⟩) 3 3] W fun e w' => e = .returned (.int .i64 (feL [c, d, x])) ∧ W = w' :=
  firstError_any _ 3 [c, d, x] W h (by simp)

/-- Two boxes. -/
structure BoxPQ (P Q : Nat) (a a2 : Option Addr) (n m ca ca2 : Nat) (w W : World) : Prop where
  bp : W.heap[P]? = some (.cells #[.slice a n ca] 22 (0, 0))
  bq : W.heap[Q]? = some (.cells #[.slice a2 m ca2] 22 (0, 0))
  below : Below w.heap.size w W
section
variable {P Q : Nat} {a a2 : Option Addr} {n m ca ca2 : Nat} {w W W' : World}
theorem BoxPQ.low (h : BoxPQ P Q a a2 n m ca ca2 w W) (hb : Below W.heap.size W W') : BoxPQ P Q a a2 n m ca ca2 w W' := ⟨hp_below h.bp hb (hp_lt h.bp), hp_below h.bq hb (hp_lt h.bq), h.below.trans (hb.mono h.below.size)⟩
theorem BoxPQ.drew (h : BoxPQ P Q a a2 n m ca ca2 w W) : BoxPQ P Q a a2 n m ca ca2 w W.drew := ⟨hp_drew h.bp, hp_drew h.bq, h.below.drew⟩
theorem BoxPQ.p0 (h : BoxPQ P Q a a2 n m ca ca2 w W) : W.cell? ⟨P, 0, none⟩ = some (.slice a n ca) := hp_cell h.bp (by rfl)
theorem BoxPQ.q0 (h : BoxPQ P Q a a2 n m ca ca2 w W) : W.cell? ⟨Q, 0, none⟩ = some (.slice a2 m ca2) := hp_cell h.bq (by rfl)
end

end Go.Proofs.Ytikblaebfpdngaa
