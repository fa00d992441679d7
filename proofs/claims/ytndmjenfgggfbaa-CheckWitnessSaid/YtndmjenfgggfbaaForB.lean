/- Force of the document's answers: contract. -/
import Derived.Test.YtndmjenfgggfbaaForA
set_option linter.unusedVariables false
set_option linter.unusedSimpArgs false
namespace Go.Proofs.Ytndmjenfgggfbaa
open Go.RowKit Tinker

/-- The code and the state at the end of Force. -/
def fC (p : List L) (s ls vs : List Int) : Int := if vr p s = 0 then fcC p ls vs else vr p s
def fA (p : List L) (s ls vs : List Int) : List Int := if fC p s ls vs = 0 then (tr p (fL ls vs) 0 s).2 else []
theorem fC_vr {p : List L} {s ls vs : List Int} (h : vr p s = 0) : fC p s ls vs = fcC p ls vs := by unfold fC; rw [if_pos h]
theorem fA_no {p : List L} {s ls vs : List Int} (h : fC p s ls vs ≠ 0) : fA p s ls vs = [] := by unfold fA; rw [if_neg h]
theorem fA_yes {p : List L} {s ls vs : List Int} (h : fC p s ls vs = 0) : fA p s ls vs = (tr p (fL ls vs) 0 s).2 := by unfold fA; rw [if_pos h]
theorem fL_okF {p : List L} {ls vs : List Int} (h : fcC p ls vs = 0) : okF p (fL ls vs) := fun i n hn => by
  obtain ⟨_, _, h3, h4, h5⟩ := fcC_ok h
  obtain ⟨j, hj, e1, e2⟩ := fLk_some hn
  obtain ⟨x, hx⟩ := get_of_lt (show j < ls.length by omega)
  obtain ⟨y, hy⟩ := get_of_lt (show j < vs.length by omega)
  rw [getD_of_get hx] at e1
  rw [getD_of_get hy] at e2
  subst e1 e2
  refine ⟨allBtw_at h4 (mem_of_get hy), fun l hl => ?_⟩
  have := List.all_eq_true.1 h5 _ (mem_of_get hx)
  rw [Int.toNat_natCast, getD_of_get hl] at this
  exact this
theorem fA_ok {p : List L} {s ls vs : List Int} (h : fC p s ls vs = 0) : okS (fA p s ls vs) := by
  rw [fA_yes h]
  have hz : vr p s = 0 := by unfold fC at h; split at h <;> assumption
  rw [fC_vr hz] at h
  exact (tr_ok (fL_okF h) _ 0 s (Nat.le_refl _) (vs_ok (vr_ok hz).2)).1
theorem givesRF {p : List L} {s ls vs : List Int} {w w' : World} {c : Int} (h : fC p s ls vs = c) (hc : c ≠ 0) (hB : Below w.heap.size w w') : GivesR (fA p s ls vs) (fC p s ls vs) w (.returned (.tuple #[.slice none 0 0, .int .i64 c])) w' := by
  subst h
  rw [fA_no hc]
  exact givesR_nil hB

end Go.Proofs.Ytndmjenfgggfbaa
