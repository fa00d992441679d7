/- Several texts in one. -/
import Derived.Test.YtjciojoeifekeaaRefC
import Derived.Test.YtjciojoeifekeaaKnownT
import Derived.IntWalk
/- IsSet of both, validateForced: contracts. -/
set_option linter.unusedVariables false
set_option linter.unusedSimpArgs false
namespace Go.Proofs.Ytjciojoeifekeaa
open Go.RowKit Tinker

/-- The first numbers are strictly ascending. -/
def AscTo (l : List Int) (k : Nat) : Prop := ∀ i, i < k → i + 1 < l.length → l.getD i 0 < l.getD (i + 1) 0
theorem ascTo_zero (l : List Int) : AscTo l 0 := fun i hi => by omega
theorem ascTo_succ {l : List Int} {k : Nat} {x y : Int} (h : AscTo l k) (hx : l[k]? = some x) (hy : l[k + 1]? = some y) (hxy : x < y) : AscTo l (k + 1) := fun i hi h1 => by
  rcases Nat.lt_or_ge i k with h2 | h2
  · exact h i h2 h1
  · have : i = k := by omega
    subst this
    rw [getD_of_get hx, getD_of_get hy]; exact hxy
theorem isSetB_yes {l : List Int} {k : Nat} (h : AscTo l k) (hk : l.length ≤ k + 1) : isSetB l = true := (isSetB_iff l).2 fun i hi => h i (by omega) hi
theorem isSetB_no {l : List Int} {k : Nat} {x y : Int} (hx : l[k]? = some x) (hy : l[k + 1]? = some y) (hxy : y ≤ x) : isSetB l = false := by
  rw [Bool.eq_false_iff]; intro h
  have := (isSetB_iff l).1 h k (List.getElem?_eq_some_iff.1 hy).1
  rw [getD_of_get hx, getD_of_get hy] at this
  omega

/-- The errors of what is forced. -/
def allWr (p : List L) (ls : List Int) : Bool := ls.all fun n => Tinker.wr (p.getD n.toNat ⟨0, 0, 0, 0⟩)
def fcC (p : List L) (ls vs : List Int) : Int :=
  if isSetB ls = false then 1 else if allBtw ls 0 ((p.length : Int) - 1) = false then 4 else if ls.length ≠ vs.length then 9 else if allBtw vs (-999) 999 = false then 1 else if allWr p ls = false then 6 else 0
theorem fcC_1 {p : List L} {ls vs : List Int} (h1 : isSetB ls = false) : fcC p ls vs = 1 := by unfold fcC; rw [if_pos h1]
theorem fcC_4 {p : List L} {ls vs : List Int} (h1 : isSetB ls = true) (h2 : allBtw ls 0 ((p.length : Int) - 1) = false) : fcC p ls vs = 4 := by unfold fcC; rw [if_neg (by simp [h1]), if_pos h2]
theorem fcC_9 {p : List L} {ls vs : List Int} (h1 : isSetB ls = true) (h2 : allBtw ls 0 ((p.length : Int) - 1) = true) (h3 : ls.length ≠ vs.length) : fcC p ls vs = 9 := by unfold fcC; rw [if_neg (by simp [h1]), if_neg (by simp [h2]), if_pos h3]
theorem fcC_1' {p : List L} {ls vs : List Int} (h1 : isSetB ls = true) (h2 : allBtw ls 0 ((p.length : Int) - 1) = true) (h3 : ls.length = vs.length) (h4 : allBtw vs (-999) 999 = false) : fcC p ls vs = 1 := by unfold fcC; rw [if_neg (by simp [h1]), if_neg (by simp [h2]), if_neg (by omega), if_pos h4]
theorem fcC_6 {p : List L} {ls vs : List Int} (h1 : isSetB ls = true) (h2 : allBtw ls 0 ((p.length : Int) - 1) = true) (h3 : ls.length = vs.length) (h4 : allBtw vs (-999) 999 = true) (h5 : allWr p ls = false) : fcC p ls vs = 6 := by unfold fcC; rw [if_neg (by simp [h1]), if_neg (by simp [h2]), if_neg (by omega), if_neg (by simp [h4]), if_pos h5]
theorem fcC_0 {p : List L} {ls vs : List Int} (h1 : isSetB ls = true) (h2 : allBtw ls 0 ((p.length : Int) - 1) = true) (h3 : ls.length = vs.length) (h4 : allBtw vs (-999) 999 = true) (h5 : allWr p ls = true) : fcC p ls vs = 0 := by unfold fcC; rw [if_neg (by simp [h1]), if_neg (by simp [h2]), if_neg (by omega), if_neg (by simp [h4]), if_neg (by simp [h5])]
theorem fcC_ok {p : List L} {ls vs : List Int} (h : fcC p ls vs = 0) : isSetB ls = true ∧ allBtw ls 0 ((p.length : Int) - 1) = true ∧ ls.length = vs.length ∧ allBtw vs (-999) 999 = true ∧ allWr p ls = true := by
  unfold fcC at h
  split at h
  · cases h
  · split at h
    · cases h
    · split at h
      · cases h
      · split at h
        · cases h
        · split at h
          · cases h
          · rename_i h1 h2 h3 h4 h5
            exact ⟨by simpa using h1, by simpa using h2, by omega, by simpa using h4, by simpa using h5⟩
theorem allBtw_at {l : List Int} {lo hi : Int} (h : allBtw l lo hi = true) {n : Int} (hn : n ∈ l) : lo ≤ n ∧ n ≤ hi := btw_true.1 (List.all_eq_true.1 h n hn)

end Go.Proofs.Ytjciojoeifekeaa

/- Force of the document's answers: contract. -/
set_option linter.unusedVariables false
set_option linter.unusedSimpArgs false
namespace Go.Proofs.Ytjciojoeifekeaa
open Go.RowKit Tinker

/-- The code and the state at the end of Force. -/
def fC (p : List L) (s ls vs : List Int) : Int := if vr p s = 0 then fcC p ls vs else vr p s
def fA (p : List L) (s ls vs : List Int) : List Int := if fC p s ls vs = 0 then (tr p (fL ls vs) 0 s).2 else []
theorem fC_vr {p : List L} {s ls vs : List Int} (h : vr p s = 0) : fC p s ls vs = fcC p ls vs := by unfold fC; rw [if_pos h]
theorem fA_no {p : List L} {s ls vs : List Int} (h : fC p s ls vs ≠ 0) : fA p s ls vs = [] := by unfold fA; rw [if_neg h]
theorem fA_yes {p : List L} {s ls vs : List Int} (h : fC p s ls vs = 0) : fA p s ls vs = (tr p (fL ls vs) 0 s).2 := by unfold fA; rw [if_pos h]
theorem fL_okF {p : List L} {ls vs : List Int} (h : fcC p ls vs = 0) : okF p (fL ls vs) := fun i n hn => by
  obtain ⟨_, _, h3, h4, h5⟩ := fcC_ok h
  obtain ⟨j, hj, e1, e2⟩ := fLk_some hn
  obtain ⟨x, hx⟩ := get_of_lt (show j < ls.length by omega)
  obtain ⟨y, hy⟩ := get_of_lt (show j < vs.length by omega)
  rw [getD_of_get hx] at e1
  rw [getD_of_get hy] at e2
  subst e1 e2
  refine ⟨allBtw_at h4 (mem_of_get hy), fun l hl => ?_⟩
  have := List.all_eq_true.1 h5 _ (mem_of_get hx)
  rw [Int.toNat_natCast, getD_of_get hl] at this
  exact this
theorem fA_ok {p : List L} {s ls vs : List Int} (h : fC p s ls vs = 0) : okS (fA p s ls vs) := by
  rw [fA_yes h]
  have hz : vr p s = 0 := by unfold fC at h; split at h <;> assumption
  rw [fC_vr hz] at h
  exact (tr_ok (fL_okF h) _ 0 s (Nat.le_refl _) (vs_ok (vr_ok hz).2)).1
theorem givesRF {p : List L} {s ls vs : List Int} {w w' : World} {c : Int} (h : fC p s ls vs = c) (hc : c ≠ 0) (hB : Below w.heap.size w w') : GivesR (fA p s ls vs) (fC p s ls vs) w (.returned (.tuple #[.slice none 0 0, .int .i64 c])) w' := by
  subst h
  rw [fA_no hc]
  exact givesR_nil hB

end Go.Proofs.Ytjciojoeifekeaa
