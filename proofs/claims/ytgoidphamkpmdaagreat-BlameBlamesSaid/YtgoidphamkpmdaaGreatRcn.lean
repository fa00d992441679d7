/- CanPass of the document's side: contract. -/
import Derived.Test.YtgoidphamkpmdaaGreatRcp
set_option linter.unusedVariables false
set_option linter.unusedSimpArgs false
namespace Go.Proofs.YtgoidphamkpmdaaGreat
open Go.RowKit Tinker

theorem vals_rng : valsTo 25 = rng (-12) 12 := by decide
theorem compl_succ : ∀ (k : Nat) (pre : List Int), compl (k + 1) pre = (compl k pre).flatMap (Tinker.exP (-12) 12)
  | 0, pre => by
    show (valsTo 25).flatMap (fun v => [pre ++ [v]]) = [pre].flatMap (Tinker.exP (-12) 12)
    rw [vals_rng]
    unfold Tinker.exP
    rw [List.flatMap_cons, List.flatMap_nil, List.append_nil]
    exact (List.map_eq_flatMap).symm
  | k + 1, pre => by
    show (valsTo 25).flatMap (fun v => compl (k + 1) (pre ++ [v])) = ((valsTo 25).flatMap fun v => compl k (pre ++ [v])).flatMap (Tinker.exP (-12) 12)
    rw [List.flatMap_assoc]
    exact congrArg (fun F => (valsTo 25).flatMap F) (funext fun v => compl_succ k (pre ++ [v]))
theorem compl_pk : ∀ n, compl n [] = pkL (-12) n
  | 0 => rfl
  | n + 1 => by rw [compl_succ, compl_pk n]; rfl
theorem pkL_btw : ∀ {k : Nat} {s : List Int}, s ∈ pkL (-12) k → ∀ v ∈ s, -12 ≤ v ∧ v ≤ 12
  | 0, s, h, v, hv => by simp [pkL] at h; subst h; simp at hv
  | k + 1, s, h, v, hv => by
    obtain ⟨y, hy, hs⟩ := List.mem_flatMap.1 h
    unfold Tinker.exP at hs
    obtain ⟨n, hn, rfl⟩ := List.mem_map.1 hs
    rcases List.mem_append.1 hv with h1 | h1
    · exact pkL_btw hy v h1
    · obtain rfl : v = n := by simpa using h1
      exact rng_mem hn
theorem pk_fC {ps : List L} {t : T} {ls vs : List Int} (hz : vpt ps [t] = 0) (hln : lnC ps ls = 0) (hv : vs ∈ pkL (-12) ls.length) : fC ps t.inn ls vs = 0 := by
  obtain ⟨h1, h2, h3, h4⟩ := lnC_ok hln
  have hT := (vts_ok (vpt_ok hz).2).2 t (by simp)
  have hr : vr ps t.inn = 0 := by unfold vr fe; rw [if_pos (vpt_ok hz).1]; exact (isT_ok hT).1
  rw [fC_vr hr]
  refine fcC_0 h1 h2 (pkL_in hv).symm (List.all_eq_true.2 fun v hvv => btw_true.2 (by have := pkL_btw hv v hvv; omega)) (List.all_eq_true.2 fun n hn => ?_)
  have := List.all_eq_true.1 h4 n hn
  unfold wrB at this
  exact (Bool.and_eq_true _ _ ▸ this).2

end Go.Proofs.YtgoidphamkpmdaaGreat
