/- Has of the document's answers: contract; what is outside a slice, by lists. -/
import Derived.Test.YtmigkbimdjiigaaRSl
import Derived.Test.YtmigkbimdjiigaaPlain
set_option linter.unusedVariables false
set_option linter.unusedSimpArgs false
namespace Go.Proofs.Ytmigkbimdjiigaa
open Go.RowKit Tinker

/-- Whether a number is in a list. -/
def hasB (zs : List Int) (n : Int) : Bool := zs.any (· == n)
theorem hasB_yes {zs : List Int} {k : Nat} {x : Int} (h : zs[k]? = some x) : hasB zs x = true := List.any_eq_true.2 ⟨x, mem_of_get h, by simp⟩
theorem hasB_no {zs : List Int} {n : Int} {k : Nat} (h : (zs.take k).all (· != n) = true) (hk : ¬ k < zs.length) : hasB zs n = false := by
  have := all_whole h hk
  rw [Bool.eq_false_iff]
  intro h2
  obtain ⟨x, hx, hxn⟩ := List.any_eq_true.1 h2
  have h3 := List.all_eq_true.1 this x hx
  simp only [beq_iff_eq] at hxn
  subst hxn
  simp at h3

theorem mem_plc {b : List Bool} {j : Nat} (h : b.getD j false = true) : hasB (plc b) (j : Int) = true := by
  have hj : j < b.length := by
    rcases Nat.lt_or_ge j b.length with h1 | h1
    · exact h1
    · rw [getD_ge h1] at h; cases h
  unfold hasB plc plcTo
  rw [List.any_eq_true]
  refine ⟨(j : Int), List.mem_map.2 ⟨j, List.mem_filter.2 ⟨List.mem_range.2 hj, h⟩, rfl⟩, by simp⟩
theorem plc_mem {b : List Bool} {n : Int} (h : hasB (plc b) n = true) : ∃ j : Nat, n = (j : Int) ∧ j < b.length ∧ b.getD j false = true := by
  unfold hasB plc plcTo at h
  rw [List.any_eq_true] at h
  obtain ⟨x, hx, e⟩ := h
  simp only [beq_iff_eq] at e
  subst e
  obtain ⟨j, hj, rfl⟩ := List.mem_map.1 hx
  obtain ⟨h1, h2⟩ := List.mem_filter.1 hj
  exact ⟨j, rfl, List.mem_range.1 h1, h2⟩
theorem slCode_ok {p : List L} {s : List Int} {r : Int} (h : slCode p s r = 0) : vr p s = 0 ∧ isReg r = true := by
  unfold slCode at h
  split at h
  · split at h
    · exact ⟨by assumption, by assumption⟩
    · cases h
  · exact absurd h (by assumption)
/-- What lines outside the slice write does not matter. -/
theorem outside_all {p : List L} {s : List Int} {r : Int} {f : Nat → Option Int} (hc : slCode p s r = 0) (hf : ∀ j, f j ≠ none → hasB (slA p s r) (j : Int) = false) : (runE p s).getD r.toNat 0 = (tr p f 0 s).2.getD r.toNat 0 := by
  obtain ⟨hz, hr⟩ := slCode_ok hc
  obtain ⟨h8, hv⟩ := vp_ok (vr_ok hz).1
  obtain ⟨h4, _⟩ := vs_ok (vr_ok hz).2
  have hr' := isReg_iff.1 hr
  refine outside hv (show r.toNat < 4 by omega) _ 0 s s (Nat.le_refl _) h4 h4 (fun k _ => rfl) fun j hj => ?_
  cases hq : f j with
  | none => rfl
  | some x =>
    have := hf j (by rw [hq]; simp)
    have h2 := mem_plc hj
    rw [slA_eq hc h8] at this
    unfold runS at this
    rw [h2] at this
    cases this
theorem outside_fL {p : List L} {s ls vs : List Int} {r : Int} (hc : slCode p s r = 0) (hf : fC p s ls vs = 0) (hn : ls.all (fun n => !hasB (slA p s r) n) = true) : (runE p s).getD r.toNat 0 = (fA p s ls vs).getD r.toNat 0 := by
  rw [fA_yes hf]
  refine outside_all hc fun j hj => ?_
  cases hq : fL ls vs j with
  | none => exact absurd hq hj
  | some x =>
    obtain ⟨k, hk, e, _⟩ := fLk_some hq
    obtain ⟨y, hy⟩ := get_of_lt hk
    rw [getD_of_get hy] at e
    subst e
    have := List.all_eq_true.1 hn _ (mem_of_get hy)
    simpa using this

end Go.Proofs.Ytmigkbimdjiigaa
