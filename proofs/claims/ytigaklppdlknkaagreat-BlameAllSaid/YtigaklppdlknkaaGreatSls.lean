/- BlameSlices: the walk. -/
import Derived.Test.YtigaklppdlknkaaGreatBlI
import Derived.Test.YtigaklppdlknkaaGreatRsl3
set_option linter.unusedVariables false
set_option linter.unusedSimpArgs false
namespace Go.Proofs.YtigaklppdlknkaaGreat
open Go.RowKit Tinker

theorem dgL_small {ps : List L} {ts : List T} {z : List Int} (h : z ∈ dgL ps ts) : z.length ≤ 8 := by
  unfold dgL at h
  split at h
  · unfold blkL at h
    split at h
    · obtain ⟨m, _, rfl⟩ := List.mem_map.1 h
      exact numsM_len m
    · simp at h
  · simp at h
theorem dgL_len (ps : List L) (ts : List T) : (dgL ps ts).length ≤ 70 := by
  unfold dgL
  split
  · unfold blkL
    split
    · rw [List.length_map]; exact blk_len _
    · simp
  · simp
theorem dg_check {ps : List L} {ts : List T} (h : vpt ps ts = 0) : cbC (slL ps ts) (dgL ps ts) = 0 := by
  have hv := slL_v ps ts
  have e : dgL ps ts = (blkM (fmM (slL ps ts))).map numsM := by rw [dgL_ok h, blkL_ok hv]
  have hv2 : vfam (dgL ps ts) = 0 := by
    refine vfam_good (dgL_len ps ts) (List.all_eq_true.2 fun s hs => ?_)
    rw [e] at hs
    obtain ⟨m, hm, rfl⟩ := List.mem_map.1 hs
    exact setB_nums m (blk_lt hm)
  unfold cbC fe
  rw [if_pos hv, if_pos hv2, if_pos]
  rw [e]
  unfold fmM
  rw [List.map_map]
  refine (List.map_congr_left (g := id) fun m hm => ?_).trans (List.map_id _)
  exact maskM_nums m (blk_lt hm)

end Go.Proofs.YtigaklppdlknkaaGreat
