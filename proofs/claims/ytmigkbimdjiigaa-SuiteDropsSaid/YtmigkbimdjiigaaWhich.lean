/- which, with each of its three functions; Passing, Failing, Tells of check: contracts. -/
import Derived.Test.YtmigkbimdjiigaaChkP
import Derived.Test.YtmigkbimdjiigaaRSl
set_option linter.unusedVariables false
set_option linter.unusedSimpArgs false
namespace Go.Proofs.Ytmigkbimdjiigaa
open Go.RowKit Tinker

/-- What has been asked of the first k. -/
def heldTo (f : T → Bool) (ts : List T) : Nat → List Bool
  | 0 => List.replicate ts.length false
  | k + 1 => match ts[k]? with
    | none => heldTo f ts k
    | some t => (heldTo f ts k).set k (f t)
theorem heldTo_length (f : T → Bool) (ts : List T) : ∀ k, (heldTo f ts k).length = ts.length
  | 0 => by simp [heldTo]
  | k + 1 => by
    rw [heldTo]
    split
    · exact heldTo_length f ts k
    · rw [List.length_set]; exact heldTo_length f ts k
theorem heldTo_succ {f : T → Bool} {ts : List T} {k : Nat} {t : T} (h : ts[k]? = some t) : heldTo f ts (k + 1) = (heldTo f ts k).set k (f t) := by rw [heldTo]; simp only [h]
theorem heldTo_get (f : T → Bool) (ts : List T) : ∀ k j, j < k → k ≤ ts.length → (heldTo f ts k)[j]? = (ts.map f)[j]?
  | 0, j, h, _ => by omega
  | k + 1, j, h, hk => by
    obtain ⟨t, ht⟩ := get_of_lt (show k < ts.length by omega)
    rw [heldTo_succ ht, List.getElem?_set, heldTo_length]
    by_cases e : k = j
    · subst e; rw [if_pos rfl, if_pos (by omega), List.getElem?_map, ht]; rfl
    · rw [if_neg e]; exact heldTo_get f ts k j (by omega) (by omega)
theorem heldTo_whole (f : T → Bool) (ts : List T) : heldTo f ts ts.length = ts.map f := by
  refine List.ext_getElem? fun j => ?_
  rcases Nat.lt_or_ge j ts.length with h | h
  · exact heldTo_get f ts _ j h (Nat.le_refl _)
  · rw [List.getElem?_eq_none (by rw [heldTo_length]; omega), List.getElem?_eq_none (by simpa using h)]

/-- A block of bools. -/
structure BlkB (M : Nat) (bs : List Bool) (w W : World) : Prop where
  bm : W.heap[M]? = some (.cells (bv bs) 4 (0, 0))
  below : Below w.heap.size w W
theorem BlkB.low {M : Nat} {bs : List Bool} {w W W' : World} (h : BlkB M bs w W) (hb : Below W.heap.size W W') : BlkB M bs w W' := ⟨hp_below h.bm hb (hp_lt h.bm), h.below.trans (hb.mono h.below.size)⟩
theorem BlkB.drew {M : Nat} {bs : List Bool} {w W : World} (h : BlkB M bs w W) : BlkB M bs w W.drew := ⟨hp_drew h.bm, h.below.drew⟩
theorem BlkB.put {M : Nat} {bs : List Bool} {w W : World} (h : BlkB M bs w W) (hM : w.heap.size ≤ M) (j : Nat) (y : Bool) : BlkB M (bs.set j y) w (W.setCell ⟨M, j, none⟩ (.bool y)) :=
  ⟨by rw [← bv_set]; exact hp_put h.bm _ _, h.below.setCell (p := ⟨M, _, none⟩) hM _⟩
theorem BlkB.bools {M : Nat} {bs : List Bool} {w W : World} (h : BlkB M bs w W) : BoolsAt W M 0 bs := fun j n hj => by
  rw [Nat.zero_add]
  have := hp_cell h.bm (bv_get bs j (List.getElem?_eq_some_iff.1 hj).1)
  rwa [getD_of_get hj] at this

/-- What Passing (true) and Failing (false) answer. -/
def pL (b : Bool) (ps : List L) (ts : List T) : List Int := if vpt ps ts = 0 then plc (ts.map fun t => pas ps t == b) else []
theorem pL_ok {b : Bool} {ps : List L} {ts : List T} (h : vpt ps ts = 0) : pL b ps ts = plc (ts.map fun t => pas ps t == b) := by unfold pL; rw [if_pos h]
theorem pL_no {b : Bool} {ps : List L} {ts : List T} (h : vpt ps ts ≠ 0) : pL b ps ts = [] := by unfold pL; rw [if_neg h]

end Go.Proofs.Ytmigkbimdjiigaa
