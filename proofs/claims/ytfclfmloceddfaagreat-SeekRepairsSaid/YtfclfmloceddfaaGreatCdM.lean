/- Plain mathematics: candidates as what is picked out of all lines; the walk of the statement through two ascending lists. -/
import Derived.Test.YtfclfmloceddfaaGreatSkA
set_option linter.unusedVariables false
set_option linter.unusedSimpArgs false
namespace Go.Proofs.YtfclfmloceddfaaGreat
open Go.RowKit Tinker

theorem othL_nil (l : L) : othL [] l = [] := by
  unfold othL
  rw [List.filter_eq_nil_iff]
  intro m _
  simp [hasL]
theorem allL_len9 : allL.length ≤ 1000 := by
  have : allL.length = 477 := by kernel_rfl
  omega
theorem tmpl_len9 (l : L) : (tmpl l).length ≤ 1000 := by
  unfold tmpl
  exact Nat.le_trans (List.length_filter_le _ _) allL_len9
/-- The candidates of a kind for a place. -/
def cndL (ps : List L) (i : Nat) (n : Int) : List L := othL (if n = 0 then tmpl (lnD ps i) else if n = 1 then ps else allL) (lnD ps i)

/-- Whether a line is of a kind for a place. -/
def isKd (ps : List L) (i : Nat) (n : Int) (m : L) : Bool := if n = 0 then nearB (lnD ps i) m else if n = 1 then hasL ps m else true
theorem cnd_filter {ps : List L} {i : Nat} {n : Int} : cndL ps i n = allL.filter fun m => isKd ps i n m && !eqL m (lnD ps i) := by
  unfold cndL othL
  refine List.filter_congr fun m hm => ?_
  congr 1
  unfold isKd
  by_cases h0 : n = 0
  · rw [if_pos h0, if_pos h0, Bool.eq_iff_iff, hasL_iff, tmpl_mem]
    exact ⟨fun h => h.2, fun h => ⟨allL_mem.1 hm, h⟩⟩
  · rw [if_neg h0, if_neg h0]
    by_cases h1 : n = 1
    · rw [if_pos h1, if_pos h1]
    · rw [if_neg h1, if_neg h1]
      exact hasL_iff.2 hm
theorem cnd_all {ps : List L} {i : Nat} : cndL ps i 2 = allL.filter fun m => !eqL m (lnD ps i) := by
  rw [cnd_filter]
  refine List.filter_congr fun m _ => ?_
  unfold isKd
  rw [if_neg (by decide), if_neg (by decide)]
  rfl
theorem cnd_sub (ps : List L) (i : Nat) (n : Int) : (cndL ps i n).Sublist (cndL ps i 2) := by
  have h : cndL ps i n = (cndL ps i 2).filter (isKd ps i n) := by
    rw [cnd_all, List.filter_filter, cnd_filter]
  rw [h]
  exact List.filter_sublist
theorem cnd_len9 (ps : List L) (i : Nat) (n : Int) : (cndL ps i n).length ≤ 1000 := by
  rw [cnd_filter]
  exact Nat.le_trans (List.length_filter_le _ _) allL_len9
theorem drop_at {α : Type} {l : List α} {k : Nat} {x : α} (h : l[k]? = some x) : l.drop k = x :: l.drop (k + 1) := by
  obtain ⟨hk, rfl⟩ := List.getElem?_eq_some_iff.1 h
  exact List.drop_eq_getElem_cons hk
theorem sub_hit {A B : List L} {k i : Nat} {x y : L} (ha : A[k]? = some x) (hb : B[i]? = some y) (h : (A.drop k).Sublist (B.drop i)) (he : y = x) : (A.drop (k + 1)).Sublist (B.drop (i + 1)) := by
  rw [drop_at ha, drop_at hb, he] at h
  exact List.cons_sublist_cons.1 h
theorem sub_miss {A B : List L} {k i : Nat} {x y : L} (ha : A[k]? = some x) (hb : B[i]? = some y) (h : (A.drop k).Sublist (B.drop i)) (he : y ≠ x) : (A.drop k).Sublist (B.drop (i + 1)) := by
  rw [drop_at ha, drop_at hb] at h
  rw [drop_at ha]
  rcases List.sublist_cons_iff.1 h with h | ⟨r, h1, h2⟩
  · exact h
  · injection h1 with h1 _
    exact absurd h1.symm he
theorem sub_end {A B : List L} {k i : Nat} (h : (A.drop k).Sublist (B.drop i)) (hi : B.length ≤ i) : A.length ≤ k := by
  rw [List.drop_eq_nil_of_le hi] at h
  have := List.sublist_nil.1 h
  exact List.drop_eq_nil_iff.1 this
theorem any_take2 {T : List L} {f : L → Bool} {k : Nat} {x : L} (hx : T[k]? = some x) : (T.take (k + 1)).any f = ((T.take k).any f || f x) := by
  rw [take_snoc hx, List.any_append]
  simp
theorem filter_hit {T : List L} {f : L → Bool} {k : Nat} {x : L} (hx : T[k]? = some x) (h : f x = true) : (T.take (k + 1)).filter f = (T.take k).filter f ++ [x] := by
  rw [take_snoc hx, List.filter_append]
  simp [h]
theorem filter_miss {T : List L} {f : L → Bool} {k : Nat} {x : L} (hx : T[k]? = some x) (h : f x = false) : (T.take (k + 1)).filter f = (T.take k).filter f := by
  rw [take_snoc hx, List.filter_append]
  simp [h]
theorem filter_done {T : List L} {f : L → Bool} {k : Nat} (h : ¬ k < T.length) : (T.take k).filter f = T.filter f := by
  rw [List.take_of_length_le (by omega)]
theorem filter_len9 {T : List L} {f : L → Bool} {k : Nat} (h : T.length ≤ 1000) : ((T.take k).filter f).length ≤ 1000 := Nat.le_trans (List.length_filter_le _ _) (by rw [List.length_take]; omega)

end Go.Proofs.YtfclfmloceddfaaGreat
