/- BlameSlices: the walk. -/
import Derived.Test.YtgoidphamkpmdaaGreatBlI
import Derived.Test.YtgoidphamkpmdaaGreatRsl3
set_option linter.unusedVariables false
set_option linter.unusedSimpArgs false
namespace Go.Proofs.YtgoidphamkpmdaaGreat
open Go.RowKit Tinker

theorem dgL_small {ps : List L} {ts : List T} {z : List Int} (h : z ∈ dgL ps ts) : z.length ≤ 8 := by
  unfold dgL at h
  split at h
  · unfold blkL at h
    split at h
    · obtain ⟨m, _, rfl⟩ := List.mem_map.1 h
      exact numsM_len m
    · simp at h
  · simp at h
theorem dgL_len (ps : List L) (ts : List T) : (dgL ps ts).length ≤ 70 := by
  unfold dgL
  split
  · unfold blkL
    split
    · rw [List.length_map]; exact blk_len _
    · simp
  · simp
theorem dg_check {ps : List L} {ts : List T} (h : vpt ps ts = 0) : cbC (slL ps ts) (dgL ps ts) = 0 := by
  have hv := slL_v ps ts
  have e : dgL ps ts = (blkM (fmM (slL ps ts))).map numsM := by rw [dgL_ok h, blkL_ok hv]
  have hv2 : vfam (dgL ps ts) = 0 := by
    refine vfam_good (dgL_len ps ts) (List.all_eq_true.2 fun s hs => ?_)
    rw [e] at hs
    obtain ⟨m, hm, rfl⟩ := List.mem_map.1 hs
    exact setB_nums m (blk_lt hm)
  unfold cbC fe
  rw [if_pos hv, if_pos hv2, if_pos]
  rw [e]
  unfold fmM
  rw [List.map_map]
  refine (List.map_congr_left (g := id) fun m hm => ?_).trans (List.map_id _)
  exact maskM_nums m (blk_lt hm)

set_option maxRecDepth 100000 in
set_option maxHeartbeats 4000000 in
theorem blameSlices_walk (a : Option Addr) (ca : Nat) (ps : List L) (g : Option Addr) (cg : Nat) (ts : List T) (w : World) (hp : LinesAt w a ps) (hc0 : a = none → ca = 0) (hts : TestsAt w g ts) (hc1 : g = none → cg = 0) :
    Calls Tryz.prog 3 #[.slice a ps.length ca, .slice g ts.length cg] w fun e w' => e = .returned (.bool true) ∧ Below w.heap.size w w' := by
  clear hc0 hc1
  have HK := Lib.hid (fun w => known3_true w)
  have HL := Lib.hid (fun w => long_any a ps.length ca w)
  have HM := Lib.hid (many_any g cg ts w hts)
  by_cases g1 : 100 < ps.length
  · rw [show decide ((100 : Int) < (ps.length : Int)) = true by simp; omega] at HL
    clear hp hts g1
    go_enter Tryz.func3, Tryz.ntmps3
    go_wp2_with fail
    refine (HL.out _).mono ?_
    rintro e w1 ⟨rfl, rfl⟩
    go_wp2_with fail
    refine (HK.out _).mono ?_
    rintro e w2 ⟨rfl, hB⟩
    go_wp2_with fail
    go_ret
    exact ⟨rfl, hB⟩
  rw [show decide ((100 : Int) < (ps.length : Int)) = false by simp; omega] at HL
  cases hmb : manyB ts
  rotate_left
  · rw [hmb] at HM
    clear hp hts g1 hmb
    go_enter Tryz.func3, Tryz.ntmps3
    go_wp2_with fail
    refine (HL.out _).mono ?_
    rintro e w1 ⟨rfl, rfl⟩
    go_wp2_with fail
    refine HM.out.mono ?_
    rintro e w1 ⟨rfl, hB1⟩
    have HB1 := Lib.hid hB1
    clear hB1
    go_wp2_with fail
    refine (HK.out _).mono ?_
    rintro e w2 ⟨rfl, hB⟩
    go_wp2_with fail
    go_ret
    exact ⟨rfl, HB1.out.trans (hB.mono HB1.out.size)⟩
  rw [hmb] at HM
  obtain ⟨t50, t100⟩ := many_no hmb
  have hml : ∀ t ∈ ts, t.inn.length ≤ 1000 := fun t ht => by have := t100 t ht; omega
  have C1 := Lib.hid (fun w hp hts => Slices_any a g ca cg ps ts w hp hts (by omega) hml)
  have C2 := Lib.hid (fun w hp hts => rSlices_any a g ca cg ps ts w hp hts (by omega))
  have C3 := Lib.hid (fun w hp hts => Diagnoses_any a g ca cg ps ts w hp hts (by omega) hml)
  have C4 := Lib.hid (fun w hp hts => rDiagnoses_any a g ca cg ps ts w hp hts (by omega))
  have hX := slL_len ps ts
  have hX2 := fun z h => setB_len (slL_small (ps := ps) (ts := ts) (z := z) h)
  have hY := dgL_len ps ts
  have hY2 := fun z h => dgL_small (ps := ps) (ts := ts) (z := z) h
  have S1 := Lib.hid (fun a' b' c' d' w h1 h2 => sameLists_self (slL ps ts).length a' b' c' d' (slL ps ts) w rfl h1 h2 (by omega) (fun z hz => by have := hX2 z hz; omega))
  have S2 := Lib.hid (fun a' b' c' d' w h1 h2 => sameLists_self (dgL ps ts).length a' b' c' d' (dgL ps ts) w rfl h1 h2 (by omega) (fun z hz => by have := hY2 z hz; omega))
  have CB := Lib.hid (fun a' b' c' d' w h1 h2 => CheckBlocker_any a' b' c' d' (slL ps ts) (dgL ps ts) w h1 h2 (fun z hz => by have := hX2 z hz; omega) (fun z hz => by have := hY2 z hz; omega))
  have HE := Lib.hid (fun h => dg_check (ps := ps) (ts := ts) h)
  have HP := Lib.hid hp
  have HT := Lib.hid hts
  generalize cbC (slL ps ts) (dgL ps ts) = cb at CB HE
  generalize dgL ps ts = Y at C3 C4 S2 CB
  generalize slL ps ts = X at C1 C2 S1 CB
  generalize vpt ps ts = v at C1 C2 C3 C4 HE
  clear hp hts g1 hmb t50 t100 hml hX hX2 hY hY2
  go_enter Tryz.func3, Tryz.ntmps3
  go_wp2_with fail
  refine (HL.out _).mono ?_
  rintro e w1 ⟨rfl, rfl⟩
  go_wp2_with fail
  refine HM.out.mono ?_
  rintro e w0 ⟨rfl, hB0⟩
  have HB0 := Lib.hid hB0
  clear hB0
  go_wp2_with fail
  refine (C1.out _ (HP.out.below HB0.out (Nat.le_refl _)) (HT.out.below HB0.out (Nat.le_refl _))).mono ?_
  rintro e w1 ⟨a1, c1, rfl, h1, hB1⟩
  have R1 := Lib.hid h1.at_
  have HB1 := Lib.hid (HB0.out.trans (hB1.mono HB0.out.size))
  clear h1 hB1
  go_wp2_with fail
  refine (C2.out _ (HP.out.below HB1.out (Nat.le_refl _)) (HT.out.below HB1.out (Nat.le_refl _))).mono ?_
  rintro e w2 ⟨a2, c2, rfl, h2, hB2⟩
  have R1 := Lib.hid (R1.out.below hB2 (Nat.le_refl _))
  have R2 := Lib.hid h2.at_
  have HB2 := Lib.hid (HB1.out.trans (hB2.mono HB1.out.size))
  clear h2 hB2
  go_wp2_with fail
  refine (C3.out _ (HP.out.below HB2.out (Nat.le_refl _)) (HT.out.below HB2.out (Nat.le_refl _))).mono ?_
  rintro e w3 ⟨a3, c3, rfl, h3, hB3⟩
  have R1 := Lib.hid (R1.out.below hB3 (Nat.le_refl _))
  have R2 := Lib.hid (R2.out.below hB3 (Nat.le_refl _))
  have R3 := Lib.hid h3.at_
  have HB3 := Lib.hid (HB2.out.trans (hB3.mono HB2.out.size))
  clear h3 hB3
  go_wp2_with fail
  refine (C4.out _ (HP.out.below HB3.out (Nat.le_refl _)) (HT.out.below HB3.out (Nat.le_refl _))).mono ?_
  rintro e w4 ⟨a4, c4, rfl, h4, hB4⟩
  have R1 := Lib.hid (R1.out.below hB4 (Nat.le_refl _))
  have R2 := Lib.hid (R2.out.below hB4 (Nat.le_refl _))
  have R3 := Lib.hid (R3.out.below hB4 (Nat.le_refl _))
  have R4 := Lib.hid h4.at_
  have HB4 := Lib.hid (HB3.out.trans (hB4.mono HB3.out.size))
  clear h4 hB4
  go_wp2_with fail
  refine (S1.out _ _ _ _ _ R1.out R2.out).mono ?_
  rintro e w5 ⟨rfl, hB5⟩
  have R1 := Lib.hid (R1.out.below hB5 (Nat.le_refl _))
  have R3 := Lib.hid (R3.out.below hB5 (Nat.le_refl _))
  have R4 := Lib.hid (R4.out.below hB5 (Nat.le_refl _))
  have HB5 := Lib.hid (HB4.out.trans (hB5.mono HB4.out.size))
  clear hB5
  go_wp2_with fail
  refine (S2.out _ _ _ _ _ R3.out R4.out).mono ?_
  rintro e w6 ⟨rfl, hB6⟩
  have R1 := Lib.hid (R1.out.below hB6 (Nat.le_refl _))
  have R3 := Lib.hid (R3.out.below hB6 (Nat.le_refl _))
  have HB6 := Lib.hid (HB5.out.trans (hB6.mono HB5.out.size))
  clear hB6
  by_cases hv : v = 0
  · have hcb := HE.out hv
    subst hv hcb
    go_wp2_with fail
    refine (CB.out _ _ _ _ _ R1.out R3.out).mono ?_
    rintro e w7 ⟨rfl, hB7⟩
    have HB7 := Lib.hid (HB6.out.trans (hB7.mono HB6.out.size))
    clear hB7
    go_wp2_with fail
    refine (HK.out _).mono ?_
    rintro e w8 ⟨rfl, hB⟩
    go_wp2_with fail
    go_ret
    exact ⟨rfl, HB7.out.trans (hB.mono HB7.out.size)⟩
  · have hz1 : (v != 0) = true := by simpa using hv
    have hz2 : (v == 0) = false := by simpa using hv
    clear hv
    go_wp2_with fail
    refine (HK.out _).mono ?_
    rintro e w8 ⟨rfl, hB⟩
    go_wp2_with fail
    go_ret
    exact ⟨rfl, HB6.out.trans (hB.mono HB6.out.size)⟩

end Go.Proofs.YtgoidphamkpmdaaGreat
