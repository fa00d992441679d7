/- What is to blame hits the slices; BlameBlames: the walk. -/
import Derived.Test.YtgoidphamkpmdaaGreatBms
import Derived.Test.YtgoidphamkpmdaaGreatHas
set_option linter.unusedVariables false
set_option linter.unusedSimpArgs false
namespace Go.Proofs.YtgoidphamkpmdaaGreat
open Go.RowKit Tinker

theorem fT_fails {ps : List L} {ts : List T} {t : T} (hz : vpt ps ts = 0) (h : t ∈ fT ps ts) : pas ps t = false := by
  unfold fT at h
  obtain ⟨z, hzm, rfl⟩ := List.mem_map.1 h
  rw [pL_ok hz] at hzm
  obtain ⟨j, rfl, hj, hb⟩ := plc_mem (n := z) (by unfold hasB; exact List.any_eq_true.2 ⟨z, hzm, by simp⟩)
  have hjl : j < ts.length := by simpa using hj
  obtain ⟨t, ht⟩ := get_of_lt hjl
  rw [tgD_at ht]
  have e : (ts.map fun t => pas ps t == false)[j]? = some (pas ps t == false) := by rw [List.getElem?_map, ht]; rfl
  rw [getD_of_get e] at hb
  simpa using hb
theorem bm_hits {ps : List L} {ts : List T} {ls : List Int} (h : itB ps ts ls = true) : vpt ps ts = 0 ∧ hitV (slL ps ts) ls = true ∧ hitC (slL ps ts) ls = 0 := by
  unfold itB at h
  by_cases hc : itC ps ts ls = 0
  · rw [if_pos hc] at h
    unfold itC at hc
    by_cases hz : vpt ps ts = 0
    · rw [if_pos hz] at hc
      obtain ⟨s1, s2, s3, s4⟩ := lnC_ok hc
      have hvp := (vpt_ok hz).1
      have hpl := (vp_ok hvp).1
      have hbt : ∀ n ∈ ls, 0 ≤ n ∧ n ≤ 7 := fun n hn => by have := allBtw_at s2 hn; omega
      have hset : setB ls = true := by
        unfold setB
        rw [s1, Bool.true_and]
        exact List.all_eq_true.2 fun n hn => btw_true.2 (hbt n hn)
      refine ⟨hz, ?_, ?_⟩
      · unfold hitV
        rw [if_pos (slL_v ps ts), if_pos hset, slL_ok hz]
        refine hitsM_iff.2 fun x hx => ?_
        unfold fmM at hx
        rw [List.map_map] at hx
        obtain ⟨t, ht, rfl⟩ := List.mem_map.1 hx
        have hT := (vts_ok (vpt_ok hz).2).2 t (fT_mem ht)
        have hp := List.all_eq_true.1 h t ht
        obtain ⟨vs, hvs⟩ := Option.isSome_iff_exists.1 hp
        unfold pickO at hvs
        have h1 := List.find?_some hvs
        unfold pasF at h1
        rw [Bool.and_eq_true] at h1
        have h3 : fC ps t.inn ls vs = 0 := by simpa using h1.1
        have h4 : (fA ps t.inn ls vs).getD t.out.toNat 0 = t.want := by simpa using h1.2
        have hsl : slCode ps t.inn t.out = 0 := by
          have hr : vr ps t.inn = 0 := by unfold vr fe; rw [if_pos hvp]; exact (isT_ok hT).1
          unfold slCode
          rw [if_pos hr, if_pos (isT_ok hT).2.1]
        by_cases hn : ls.all (fun n => !hasB (slA ps t.inn t.out) n) = true
        · exfalso
          have h5 := outside_fL hsl h3 hn
          have h6 := fT_fails hz ht
          unfold pas endP at h6
          rw [h5, h4] at h6
          simp at h6
        · obtain ⟨n, hn1, hn2⟩ : ∃ n ∈ ls, hasB (slA ps t.inn t.out) n = true := by simpa using hn
          have hb := hbt n hn1
          refine ⟨n.toNat, ?_, ?_⟩
          · show (maskM (slT ps t)).testBit n.toNat = true
            rw [maskM_bit]
            unfold hasB at hn2
            obtain ⟨y, hy, e⟩ := List.any_eq_true.1 hn2
            have e2 : y = n := by simpa using e
            exact List.any_eq_true.2 ⟨y, hy, by rw [e2]; simp⟩
          · rw [maskM_bit]
            exact List.any_eq_true.2 ⟨n, hn1, by simp⟩
      · unfold hitC
        rw [if_pos (slL_v ps ts), if_pos hset]
    · rw [if_neg hz] at hc
      exact absurd hc hz
  · rw [if_neg hc] at h
    cases h

theorem blameBlames_walk (a : Option Addr) (ca : Nat) (ps : List L) (g : Option Addr) (cg : Nat) (ts : List T) (c : Option Addr) (cc : Nat) (ls : List Int) (w : World) (hp : LinesAt w a ps) (hc0 : a = none → ca = 0) (hts : TestsAt w g ts) (hc1 : g = none → cg = 0) (hl : IntsAt w c ls) (hc2 : c = none → cc = 0) :
    Calls Tryz.prog 4 #[.slice a ps.length ca, .slice g ts.length cg, .slice c ls.length cc] w fun e w' => e = .returned (.bool true) ∧ Below w.heap.size w w' :=
  blameBlames_walk0 a ca ps g cg ts c cc ls w hp hts hl (fun h => bm_hits h)

end Go.Proofs.YtgoidphamkpmdaaGreat
