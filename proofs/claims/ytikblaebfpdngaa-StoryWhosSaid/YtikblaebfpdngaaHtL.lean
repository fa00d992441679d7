/- Several texts in one. -/
import Derived.Test.YtikblaebfpdngaaHtM
import Derived.Test.YtikblaebfpdngaaKpC
import Derived.Test.YtikblaebfpdngaaPtY
import Derived.Test.YtikblaebfpdngaaHtD
import Derived.Test.YtikblaebfpdngaaDlI
import Derived.Deep.RegionHeld
import Derived.ArgAppend
import Derived.RangeFuncNested
import Derived.RangeFuncBound
import Derived.RangeFuncCalls
import Derived.RangeFuncLeaves
import Derived.Shelf.Abstract
import Derived.Shelf.RegionOpen
import Derived.OwnWalkIn
import Derived.TacticsInMore
import Derived.LoopNIn
import Derived.LoopIn
import Derived.Test.YtikblaebfpdngaaSliceC
import Derived.Test.YtikblaebfpdngaaRgR
import Derived.Test.YtikblaebfpdngaaPtD
import Derived.Test.YtikblaebfpdngaaPtS
import Derived.Test.YtikblaebfpdngaaHtH
import Derived.RangeFuncBox
import Derived.Test.YtikblaebfpdngaaRSl
/- Histories: Validate, play and at of story. -/
set_option linter.unusedVariables false
set_option linter.unusedSimpArgs false
namespace Go.Proofs.Ytikblaebfpdngaa
open Go.RowKit Tinker

set_option maxRecDepth 100000 in
set_option maxHeartbeats 1000000 in
theorem stRep_any (a g : Option Addr) (ca cg : Nat) (ps : List L) (xs : List E) (w : World) (hx : EditsAt w g xs) (hm : xs.length ≤ 1000) (hpl : ps.length ≤ 1000) :
    Calls Try.prog 43 #[.slice a ps.length ca, .slice g xs.length cg] w fun e w' => e = .returned (.int .i64 (vrp ps xs)) ∧ Below w.heap.size w w' := by
  have H1 := Lib.hid (fun w hx => pTouches_any g cg xs w hx hm)
  by_cases hz : vx xs = 0
  · have hl := (vx_ok hz).1
    have HT := Lib.hid (show tcR xs = pl xs by unfold tcR; rw [if_pos hz])
    have hl2 : (pl xs).length ≤ 4 := by unfold pl; rw [List.length_map]; exact hl
    have H2 := Lib.hid (fun b c w h => areBetween_any b c (pl xs) 0 ((ps.length : Int) - 1) w h (by omega))
    rw [HT.out, hz] at H1
    cases hb : allBtw (pl xs) 0 ((ps.length : Int) - 1)
    · have HR := Lib.hid (vrp_1 hz hb)
      rw [HR.out]
      rw [hb] at H2
      clear hz hb HT HR
      go_enter Try.func43, Try.ntmps43
      go_wp2_with fail
      refine (H1.out _ hx).mono ?_
      rintro e w1 ⟨b, c, rfl, hI, hB⟩
      have HI := Lib.hid hI
      have HB := Lib.hid hB
      clear hI hB
      go_wp2_with fail
      refine (H2.out _ _ _ HI.out).mono ?_
      rintro e w2 ⟨rfl, rfl⟩
      go_wp2_with fail
      go_ret
      exact ⟨rfl, HB.out⟩
    · have HR := Lib.hid (vrp_2 hz hb)
      rw [HR.out]
      rw [hb] at H2
      clear hz hb HT HR
      go_enter Try.func43, Try.ntmps43
      go_wp2_with fail
      refine (H1.out _ hx).mono ?_
      rintro e w1 ⟨b, c, rfl, hI, hB⟩
      have HI := Lib.hid hI
      have HB := Lib.hid hB
      clear hI hB
      go_wp2_with fail
      refine (H2.out _ _ _ HI.out).mono ?_
      rintro e w2 ⟨rfl, rfl⟩
      go_wp2_with fail
      go_ret
      exact ⟨rfl, HB.out⟩
  · have HR := Lib.hid (vrp_0 (ps := ps) hz)
    rw [HR.out]
    have hz1 : (vx xs != 0) = true := by simpa using hz
    clear hz HR
    generalize vx xs = c at H1 hz1 ⊢
    go_enter Try.func43, Try.ntmps43
    go_wp2_with fail
    refine (H1.out _ hx).mono ?_
    rintro e w1 ⟨b, c', rfl, hI, hB⟩
    have HB := Lib.hid hB
    clear hI hB
    go_wp2_with fail
    go_ret
    exact ⟨rfl, HB.out⟩

set_option maxRecDepth 100000 in
set_option maxHeartbeats 1000000 in
theorem stVal_any (a g : Option Addr) (ca cg : Nat) (ps : List L) (h : List (List E)) (w : World) (hp : LinesAt w a ps) (hh : RowsEAt w g h) (hpl : ps.length ≤ 1000) (hhl : h.length ≤ 1000) (hm : ∀ x ∈ h, x.length ≤ 1000) :
    Calls Try.prog 16 #[.slice a ps.length ca, .slice g h.length cg] w fun e w' => e = .returned (.int .i64 (vst ps h)) ∧ Below w.heap.size w w' := by
  have HV := Lib.hid (fun w h => validate_any a ca ps w h)
  by_cases hv : vp ps = 0
  · rw [hv] at HV
    by_cases h8 : 8 < h.length
    · have HR := Lib.hid (vst_2 hv h8)
      rw [HR.out]
      have h8' : (8 : Int) < (h.length : Int) := by omega
      clear hh hv HR
      go_enter Try.func16, Try.ntmps16
      go_wp2_with fail
      refine (HV.out _ hp).mono ?_
      rintro e w1 ⟨rfl, hB⟩
      have HB := Lib.hid hB
      clear hB
      go_wp2_with fail
      go_ret
      exact ⟨rfl, HB.out⟩
    · have h8' : ¬ (8 : Int) < (h.length : Int) := by omega
      have HV3 := Lib.hid (fun k x ha hx hn => vst_3 (k := k) (x := x) hv h8 ha hx hn)
      have HV4 := Lib.hid (fun ha => vst_4 hv h8 ha)
      have HM := Lib.hid hm
      have HH := Lib.hid hh
      generalize vst ps h = r at HV3 HV4 ⊢
      clear hv hm hh
      go_enter Try.func16, Try.ntmps16
      go_wp2_with fail
      refine (HV.out _ hp).mono ?_
      rintro e w1 ⟨rfl, hB⟩
      have HB := Lib.hid hB
      clear hB
      go_wp2_with fail
      go_loopw [19] (fun s19 wr => ∃ k : Nat, k ≤ h.length ∧ s19 = .int .i64 k ∧ (h.take k).all (fun x => vrp ps x == 0) = true ∧ Below w.heap.size w wr) (fun s19 _ => h.length - (intOf s19).toNat)
      case atStart => exact ⟨0, Nat.zero_le _, rfl, by simp, HB.out⟩
      case round =>
        obtain ⟨k, hk, rfl, hall, hB⟩ := hrel
        have HA := Lib.hid hall
        have HBR := Lib.hid hB
        clear hall hB HB
        by_cases hlt : k < h.length
        · obtain ⟨b, off, x, ax, cx, rfl, hlb, hx, c0, hxe⟩ := (HH.out.below HBR.out (Nat.le_refl _)).at_ hlt
          have HX := Lib.hid hx
          have HXE := Lib.hid hxe
          have hxl : x.length ≤ 1000 := HM.out x (mem_of_get hx)
          have HC := Lib.hid (fun W h => stRep_any a ax ca cx ps x W h hxl hpl)
          clear hx hxe
          by_cases hn : vrp ps x = 0
          · have HN := Lib.hid (all_snoc (f := fun x => vrp ps x == 0) HA.out HX.out (by simpa using hn))
            rw [hn] at HC
            clear hn
            go_wp2_with fail
            refine (HC.out _ HXE.out).mono ?_
            rintro e w3 ⟨rfl, hB3⟩
            have HB3 := Lib.hid (HBR.out.trans (hB3.mono HBR.out.size))
            clear hB3
            go_wp2_with fail
            go_roundw
            case rel => exact ⟨k + 1, by omega, by go_num, HN.out, HB3.out⟩
            case measure => simp [intOf]; omega
          · have HR := Lib.hid (HV3.out k x HA.out HX.out hn)
            have hz1 : (vrp ps x != 0) = true := by simpa using hn
            clear hn
            generalize vrp ps x = c at HC HR hz1
            go_wp2_with fail
            refine (HC.out _ HXE.out).mono ?_
            rintro e w3 ⟨rfl, hB3⟩
            have HB3 := Lib.hid (HBR.out.trans (hB3.mono HBR.out.size))
            clear hB3
            go_wp2_with fail
            go_ret
            exact ⟨ret_int HR.out.symm, HB3.out⟩
        · have HR := Lib.hid (HV4.out (all_whole HA.out hlt))
          go_wp2_with fail
          go_ret
          exact ⟨ret_int HR.out.symm, HBR.out⟩
  · have HR := Lib.hid (vst_1 (h := h) hv)
    rw [HR.out]
    have hz1 : (vp ps != 0) = true := by simpa using hv
    clear hv hh HR
    generalize vp ps = c at HV hz1 ⊢
    go_enter Try.func16, Try.ntmps16
    go_wp2_with fail
    refine (HV.out _ hp).mono ?_
    rintro e w1 ⟨rfl, hB⟩
    have HB := Lib.hid hB
    clear hB
    go_wp2_with fail
    go_ret
    exact ⟨rfl, HB.out⟩

set_option maxRecDepth 100000 in
set_option maxHeartbeats 1000000 in
theorem hPlay_any (g a : Option Addr) (cg ca : Nat) (zs : List (List E)) (ps : List L) (w : World) (hh : RowsEAt w g zs) (hp : LinesAt w a ps) (hz : OkZ ps zs) (hl : zs.length ≤ 8) :
    Calls Try.prog 37 #[.slice g zs.length cg, .slice a ps.length ca] w (GivesLines (plyF ps zs) w) := by
  have hpl : ps.length ≤ 8 := (vp_ok hz.1).1
  have HC := Lib.hid (cloneLines_any a ca ps w hp (by omega))
  have HZ := Lib.hid hz
  have HH := Lib.hid hh
  clear hz hh hp
  go_enter Try.func37, Try.ntmps37
  go_wp2_with fail
  refine HC.out.mono ?_
  rintro e w1 ⟨a1, c1, rfl, ho, hB⟩
  have HO := Lib.hid ho
  have HB := Lib.hid hB
  clear ho hB HC
  go_wp2_with fail
  go_loopw [5, 12] (fun s5 s12 wr => ∃ (k : Nat) (b : Option Addr) (c : Nat), k ≤ zs.length ∧ s12 = .int .i64 k ∧ s5 = .slice b ps.length c ∧ wr.ownsRow w.heap.size 33 4 (.slice b ps.length c) ps.length (lc (plyF ps (zs.take k))) ∧ Below w.heap.size w wr) (fun _ s12 _ => zs.length - (intOf s12).toNat)
  case atStart => exact ⟨0, a1, c1, Nat.zero_le _, rfl, rfl, HO.out, HB.out⟩
  case round =>
    obtain ⟨k, b, c, hk, rfl, rfl, ho, hB⟩ := hrel
    have HOR := Lib.hid ho
    have HBR := Lib.hid hB
    clear ho hB HO HB
    by_cases hlt : k < zs.length
    · obtain ⟨bh, off, x, ax, cx, rfl, hlb, hx, c0, hxe⟩ := (HH.out.below HBR.out (Nat.le_refl _)).at_ hlt
      have HX := Lib.hid hx
      have HXE := Lib.hid hxe
      obtain ⟨hs1, hs2⟩ := HZ.out.step hx
      have hxl := (okX_at hs1).2.2
      have hql : (plyF ps (zs.take k)).length = ps.length := plyF_len _ _
      have hq2 : (plyF ps (zs.take (k + 1))).length = ps.length := plyF_len _ _
      have HC := Lib.hid (fun W h h' => pDo_any b ax c cx (plyF ps (zs.take k)) x W h h' (by omega) (by omega))
      have HLA := Lib.hid (lines_of_own HOR.out).1
      rw [hs1, hs2, hql] at HC
      have HQ2 := Lib.hid hq2
      clear hx hxe hs1 hs2 hql hq2 HOR
      go_wp2_with fail
      refine (HC.out _ HLA.out HXE.out).mono ?_
      rintro e w3 ⟨a3, c3, rfl, ho3, hB3⟩
      rw [HQ2.out] at ho3
      have HO3 := Lib.hid (own_mono ho3 HBR.out.size)
      have HB3 := Lib.hid (HBR.out.trans (hB3.mono HBR.out.size))
      have he := Lib.hid HQ2.out
      clear hB3 ho3
      rw [HQ2.out]
      go_wp2_with fail
      go_roundw
      case rel => exact ⟨k + 1, a3, c3, by omega, by go_num, rfl, HO3.out, HB3.out⟩
      case measure => simp [intOf]; omega
    · have HT := Lib.hid (show zs.take k = zs from List.take_of_length_le (by omega))
      rw [HT.out] at HOR
      have HL := Lib.hid (plyF_len ps zs)
      go_wp2_with fail
      go_ret
      exact givesLines_of HL.out HOR.out HBR.out

end Go.Proofs.Ytikblaebfpdngaa

/- first, at, without, dependsOn of story; Play, At, Direct, Needs, Needed. -/
set_option linter.unusedVariables false
set_option linter.unusedSimpArgs false
namespace Go.Proofs.Ytikblaebfpdngaa
open Go.RowKit Tinker

set_option maxRecDepth 100000 in
set_option maxHeartbeats 400000 in
theorem hFirst_any (g : Option Addr) (cg n m : Nat) (w : World) (hn : n ≤ m) (hc : m ≤ cg) (hm : m ≤ 1000) :
    Calls Try.prog 66 #[.slice g m cg, .int .i64 n] w fun e w' => e = .returned (.slice g n n) ∧ w = w' := by
  go_enter Try.func66, Try.ntmps66
  go_wp2_with fail
  go_ret
  exact ⟨rfl, rfl⟩

theorem RowsEAt.first {w : World} {g : Option Addr} {zs : List (List E)} (h : RowsEAt w g zs) (n : Nat) : RowsEAt w g (zs.take n) := by
  rcases h with h | ⟨b, off, e, hlt, hc⟩
  · exact .inl (by rw [h, List.take_nil])
  · refine .inr ⟨b, off, e, hlt, fun j x hj => hc j x ?_⟩
    rw [List.getElem?_take] at hj
    split at hj
    · exact hj
    · cases hj

set_option maxRecDepth 100000 in
set_option maxHeartbeats 400000 in
theorem hAt_any (g a : Option Addr) (cg ca : Nat) (zs : List (List E)) (ps : List L) (n : Nat) (w : World) (hh : RowsEAt w g zs) (hp : LinesAt w a ps) (hz : OkZ ps zs) (hl : zs.length ≤ 8) (hc : zs.length ≤ cg) (hn : n ≤ zs.length) :
    Calls Try.prog 41 #[.slice g zs.length cg, .slice a ps.length ca, .int .i64 n] w (GivesLines (plyF ps (zs.take n)) w) := by
  have H1 := Lib.hid (fun w => hFirst_any g cg n zs.length w hn hc (by omega))
  have H2 := Lib.hid (hPlay_any g a n ca (zs.take n) ps w (hh.first n) hp (hz.take n) (by rw [List.length_take]; omega))
  rw [List.length_take, Nat.min_eq_left hn] at H2
  clear hh hp hz
  go_enter Try.func41, Try.ntmps41
  go_wp2_with fail
  refine (H1.out _).mono ?_
  rintro e w1 ⟨rfl, rfl⟩
  go_wp2_with fail
  refine H2.out.mono ?_
  intro e w2 hG
  obtain ⟨a2, c2, rfl, ho, hB⟩ := hG
  have HO := Lib.hid ho
  have HB := Lib.hid hB
  clear ho hB
  go_wp2_with fail
  go_ret
  exact ⟨a2, c2, rfl, HO.out, HB.out⟩

set_option maxRecDepth 100000 in
set_option maxHeartbeats 400000 in
theorem stPlay_any (a g : Option Addr) (ca cg : Nat) (ps : List L) (h : List (List E)) (w : World) (hp : LinesAt w a ps) (hh : RowsEAt w g h) (hpl : ps.length ≤ 1000) (hhl : h.length ≤ 1000) (hm : ∀ x ∈ h, x.length ≤ 1000) :
    Calls Try.prog 12 #[.slice a ps.length ca, .slice g h.length cg] w (GivesLinesE (plyR ps h) (vst ps h) w) := by
  have HV := Lib.hid (stVal_any a g ca cg ps h w hp hh hpl hhl hm)
  by_cases hz : vst ps h = 0
  · have HZ := Lib.hid (okZ_of hz)
    have h8 := (vst_ok hz).2.1
    have HP := Lib.hid (fun w h1 h2 => hPlay_any g a cg ca h ps w h1 h2 HZ.out h8)
    have HR := Lib.hid (show plyR ps h = plyF ps h by unfold plyR; rw [if_pos hz])
    have HH := Lib.hid hh
    have HL := Lib.hid hp
    rw [HR.out, hz]
    rw [hz] at HV
    clear hz hp hh hm
    go_enter Try.func12, Try.ntmps12
    go_wp2_with fail
    refine HV.out.mono ?_
    rintro e w1 ⟨rfl, hB⟩
    have HB := Lib.hid hB
    clear hB
    go_wp2_with fail
    refine (HP.out _ (HH.out.below HB.out (Nat.le_refl _)) (HL.out.below HB.out (Nat.le_refl _))).mono ?_
    intro e w2 hG
    obtain ⟨a2, c2, rfl, ho, hB2⟩ := hG.wide HB.out
    have HO := Lib.hid ho
    have HB2 := Lib.hid hB2
    clear hG ho hB2
    go_wp2_with fail
    go_ret2
    exact ⟨a2, c2, rfl, HO.out, HB2.out⟩
  · have HR := Lib.hid (show plyR ps h = [] by unfold plyR; rw [if_neg hz])
    rw [HR.out]
    have hz1 : (vst ps h != 0) = true := by simpa using hz
    clear hz hp hh hm
    generalize vst ps h = c at HV hz1 ⊢
    go_enter Try.func12, Try.ntmps12
    go_wp2_with fail
    refine HV.out.mono ?_
    rintro e w1 ⟨rfl, hB⟩
    have HB := Lib.hid hB
    clear hB
    go_wp2_with fail
    go_ret2
    exact givesLinesE_nil HB.out

set_option maxRecDepth 100000 in
set_option maxHeartbeats 400000 in
theorem stNum_any (a g : Option Addr) (ca cg : Nat) (ps : List L) (h : List (List E)) (n : Int) (w : World) (hp : LinesAt w a ps) (hh : RowsEAt w g h) (hpl : ps.length ≤ 1000) (hhl : h.length ≤ 1000) (hm : ∀ x ∈ h, x.length ≤ 1000) :
    Calls Try.prog 46 #[.slice a ps.length ca, .slice g h.length cg, .int .i64 n] w fun e w' => e = .returned (.int .i64 (vnC ps h n)) ∧ Below w.heap.size w w' := by
  have HV := Lib.hid (stVal_any a g ca cg ps h w hp hh hpl hhl hm)
  have HW := Lib.hid (fun w => isBetween_any n 0 ((h.length : Int) - 1) w)
  by_cases hz : vst ps h = 0
  · rw [hz] at HV
    cases hb : btw n 0 ((h.length : Int) - 1)
    · have HR := Lib.hid (show vnC ps h n = 4 by unfold vnC; rw [if_pos hz, hb]; rfl)
      rw [HR.out]
      rw [hb] at HW
      clear hz hp hh hm hb
      go_enter Try.func46, Try.ntmps46
      go_wp2_with fail
      refine HV.out.mono ?_
      rintro e w1 ⟨rfl, hB⟩
      go_wp2_with fail
      refine (HW.out _).mono ?_
      rintro e w2 ⟨rfl, rfl⟩
      go_wp2_with fail
      go_ret
      exact ⟨rfl, hB⟩
    · have HR := Lib.hid (show vnC ps h n = 0 by unfold vnC; rw [if_pos hz, hb]; rfl)
      rw [HR.out]
      rw [hb] at HW
      clear hz hp hh hm hb
      go_enter Try.func46, Try.ntmps46
      go_wp2_with fail
      refine HV.out.mono ?_
      rintro e w1 ⟨rfl, hB⟩
      go_wp2_with fail
      refine (HW.out _).mono ?_
      rintro e w2 ⟨rfl, rfl⟩
      go_wp2_with fail
      go_ret
      exact ⟨rfl, hB⟩
  · have HR := Lib.hid (show vnC ps h n = vst ps h by unfold vnC; rw [if_neg hz])
    rw [HR.out]
    have hz1 : (vst ps h != 0) = true := by simpa using hz
    clear hz hp hh hm
    generalize vst ps h = c at HV hz1 ⊢
    go_enter Try.func46, Try.ntmps46
    go_wp2_with fail
    refine HV.out.mono ?_
    rintro e w1 ⟨rfl, hB⟩
    go_wp2_with fail
    go_ret
    exact ⟨rfl, hB⟩

set_option maxRecDepth 100000 in
set_option maxHeartbeats 400000 in
theorem stDirect_any (a g : Option Addr) (ca cg : Nat) (ps : List L) (h : List (List E)) (n : Int) (w : World) (hp : LinesAt w a ps) (hh : RowsEAt w g h) (hpl : ps.length ≤ 1000) (hhl : h.length ≤ 1000) (hm : ∀ x ∈ h, x.length ≤ 1000) :
    Calls Try.prog 19 #[.slice a ps.length ca, .slice g h.length cg, .int .i64 n] w (GivesIntsE (if vnC ps h n = 0 then ints (dirN h n.toNat) else []) (vnC ps h n) w) := by
  have HV := Lib.hid (stNum_any a g ca cg ps h n w hp hh hpl hhl hm)
  by_cases hz : vnC ps h n = 0
  · rw [if_pos hz, hz]
    rw [hz] at HV
    have hv : vst ps h = 0 := by
      unfold vnC at hz
      split at hz
      · assumption
      · exact absurd hz (by assumption)
    have hb : 0 ≤ n ∧ n ≤ (h.length : Int) - 1 := by
      unfold vnC at hz
      rw [if_pos hv] at hz
      split at hz
      · exact btw_true.1 (by assumption)
      · cases hz
    have h8 := (vst_ok hv).2.1
    obtain ⟨m, rfl⟩ : ∃ m : Nat, n = (m : Int) := ⟨n.toNat, by omega⟩
    have hml : m < h.length := by omega
    have HN := Lib.hid (fun W h1 => needs_any g cg h m W h1 hml (by omega) hm)
    have HH := Lib.hid hh
    rw [Int.toNat_natCast]
    clear hz hp hh hm hv hb
    go_enter Try.func19, Try.ntmps19
    go_wp2_with fail
    refine HV.out.mono ?_
    rintro e w1 ⟨rfl, hB⟩
    have HB := Lib.hid hB
    clear hB
    go_wp2_with fail
    refine (HN.out _ (HH.out.below HB.out (Nat.le_refl _))).mono ?_
    rintro e w2 ⟨a2, c2, rfl, ho, hB2⟩
    have HO := Lib.hid (own_mono ho HB.out.size)
    have HB2 := Lib.hid (HB.out.trans (hB2.mono HB.out.size))
    clear ho hB2
    go_wp2_with fail
    go_ret2
    exact ⟨a2, c2, rfl, HO.out, HB2.out⟩
  · rw [if_neg hz]
    have hz1 : (vnC ps h n != 0) = true := by simpa using hz
    clear hz hp hh hm
    generalize vnC ps h n = c at HV hz1 ⊢
    go_enter Try.func19, Try.ntmps19
    go_wp2_with fail
    refine HV.out.mono ?_
    rintro e w1 ⟨rfl, hB⟩
    have HB := Lib.hid hB
    clear hB
    go_wp2_with fail
    go_ret2
    exact givesIntsE_nil HB.out

set_option maxRecDepth 100000 in
set_option maxHeartbeats 400000 in
theorem stNeeds_any (a g : Option Addr) (ca cg : Nat) (ps : List L) (h : List (List E)) (n : Int) (w : World) (hp : LinesAt w a ps) (hh : RowsEAt w g h) (hpl : ps.length ≤ 1000) (hhl : h.length ≤ 1000) (hm : ∀ x ∈ h, x.length ≤ 1000) :
    Calls Try.prog 21 #[.slice a ps.length ca, .slice g h.length cg, .int .i64 n] w (GivesIntsE (if vnC ps h n = 0 then ints (nedN h n.toNat) else []) (vnC ps h n) w) := by
  have HV := Lib.hid (stNum_any a g ca cg ps h n w hp hh hpl hhl hm)
  by_cases hz : vnC ps h n = 0
  · rw [if_pos hz, hz]
    rw [hz] at HV
    have hv : vst ps h = 0 := by
      unfold vnC at hz
      split at hz
      · assumption
      · exact absurd hz (by assumption)
    have hb : 0 ≤ n ∧ n ≤ (h.length : Int) - 1 := by
      unfold vnC at hz
      rw [if_pos hv] at hz
      split at hz
      · exact btw_true.1 (by assumption)
      · cases hz
    have h8 := (vst_ok hv).2.1
    obtain ⟨m, rfl⟩ : ∃ m : Nat, n = (m : Int) := ⟨n.toNat, by omega⟩
    have hml : m < h.length := by omega
    have HN := Lib.hid (fun W h1 => reachedN_any g cg h m W h1 h8 hm hml)
    have HH := Lib.hid hh
    rw [Int.toNat_natCast]
    clear hz hp hh hm hv hb
    go_enter Try.func21, Try.ntmps21
    go_wp2_with fail
    refine HV.out.mono ?_
    rintro e w1 ⟨rfl, hB⟩
    have HB := Lib.hid hB
    clear hB
    go_wp2_with fail
    refine (HN.out _ (HH.out.below HB.out (Nat.le_refl _))).mono ?_
    rintro e w2 ⟨a2, c2, rfl, ho, hB2⟩
    have HO := Lib.hid (own_mono ho HB.out.size)
    have HB2 := Lib.hid (HB.out.trans (hB2.mono HB.out.size))
    clear ho hB2
    go_wp2_with fail
    go_ret2
    exact ⟨a2, c2, rfl, HO.out, HB2.out⟩
  · rw [if_neg hz]
    have hz1 : (vnC ps h n != 0) = true := by simpa using hz
    clear hz hp hh hm
    generalize vnC ps h n = c at HV hz1 ⊢
    go_enter Try.func21, Try.ntmps21
    go_wp2_with fail
    refine HV.out.mono ?_
    rintro e w1 ⟨rfl, hB⟩
    have HB := Lib.hid hB
    clear hB
    go_wp2_with fail
    go_ret2
    exact givesIntsE_nil HB.out

set_option maxRecDepth 100000 in
set_option maxHeartbeats 400000 in
theorem stNeeded_any (a g : Option Addr) (ca cg : Nat) (ps : List L) (h : List (List E)) (n : Int) (w : World) (hp : LinesAt w a ps) (hh : RowsEAt w g h) (hpl : ps.length ≤ 1000) (hhl : h.length ≤ 1000) (hm : ∀ x ∈ h, x.length ≤ 1000) :
    Calls Try.prog 23 #[.slice a ps.length ca, .slice g h.length cg, .int .i64 n] w (GivesIntsE (if vnC ps h n = 0 then ints (nddN h n.toNat) else []) (vnC ps h n) w) := by
  have HV := Lib.hid (stNum_any a g ca cg ps h n w hp hh hpl hhl hm)
  by_cases hz : vnC ps h n = 0
  · rw [if_pos hz, hz]
    rw [hz] at HV
    have hv : vst ps h = 0 := by
      unfold vnC at hz
      split at hz
      · assumption
      · exact absurd hz (by assumption)
    have hb : 0 ≤ n ∧ n ≤ (h.length : Int) - 1 := by
      unfold vnC at hz
      rw [if_pos hv] at hz
      split at hz
      · exact btw_true.1 (by assumption)
      · cases hz
    have h8 := (vst_ok hv).2.1
    obtain ⟨m, rfl⟩ : ∃ m : Nat, n = (m : Int) := ⟨n.toNat, by omega⟩
    have hml : m < h.length := by omega
    have HN := Lib.hid (fun W h1 => reachedU_any g cg h m W h1 h8 hm hml)
    have HH := Lib.hid hh
    rw [Int.toNat_natCast]
    clear hz hp hh hm hv hb
    go_enter Try.func23, Try.ntmps23
    go_wp2_with fail
    refine HV.out.mono ?_
    rintro e w1 ⟨rfl, hB⟩
    have HB := Lib.hid hB
    clear hB
    go_wp2_with fail
    refine (HN.out _ (HH.out.below HB.out (Nat.le_refl _))).mono ?_
    rintro e w2 ⟨a2, c2, rfl, ho, hB2⟩
    have HO := Lib.hid (own_mono ho HB.out.size)
    have HB2 := Lib.hid (HB.out.trans (hB2.mono HB.out.size))
    clear ho hB2
    go_wp2_with fail
    go_ret2
    exact ⟨a2, c2, rfl, HO.out, HB2.out⟩
  · rw [if_neg hz]
    have hz1 : (vnC ps h n != 0) = true := by simpa using hz
    clear hz hp hh hm
    generalize vnC ps h n = c at HV hz1 ⊢
    go_enter Try.func23, Try.ntmps23
    go_wp2_with fail
    refine HV.out.mono ?_
    rintro e w1 ⟨rfl, hB⟩
    have HB := Lib.hid hB
    clear hB
    go_wp2_with fail
    go_ret2
    exact givesIntsE_nil HB.out

end Go.Proofs.Ytikblaebfpdngaa

/- without and dependsOn of story. -/
set_option linter.unusedVariables false
set_option linter.unusedSimpArgs false
namespace Go.Proofs.Ytikblaebfpdngaa
open Go.RowKit Go.Shelf Tinker
attribute [local go_sem] Oper.semAt_some

theorem blk_inj {b off q o : Nat} {s p : Option Nat} (e : (some (⟨b, off, s⟩ : Addr)) = some ⟨q, o, p⟩) : b = q := by injection e with e; injection e
/-- A slice's address leads to lists, each read as R says. -/
def RowsG (R : Option Addr → List E → Prop) (w : World) (g : Option Addr) (fs : List (List E)) : Prop :=
  fs = [] ∨ ∃ b off, g = some ⟨b, off, none⟩ ∧ b < w.heap.size ∧ ∀ j zs, fs[j]? = some zs → ∃ a c, w.cell? ⟨b, off + j, none⟩ = some (.slice a zs.length c) ∧ R a zs
theorem RowsG.at_ {R : Option Addr → List E → Prop} {w : World} {g : Option Addr} {fs : List (List E)} (h : RowsG R w g fs) {k : Nat} (hk : k < fs.length) : ∃ b off, g = some ⟨b, off, none⟩ ∧ b < w.heap.size := by
  obtain ⟨b, off, e, hlb, hc⟩ := h.resolve_left (by rintro rfl; simp at hk)
  exact ⟨b, off, e, hlb⟩
theorem RowsG.below {R : Option Addr → List E → Prop} {w w' : World} {B : Nat} {g : Option Addr} {fs : List (List E)} (h : RowsG R w g fs) (hb : Below B w w') (hB : w.heap.size ≤ B) : RowsG R w' g fs := by
  rcases h with h | ⟨b, off, e, hlt, hc⟩
  · exact .inl h
  · refine .inr ⟨b, off, e, Nat.lt_of_lt_of_le hlt hb.size, fun j zs hj => ?_⟩
    obtain ⟨a, c, h0, h1⟩ := hc j zs hj
    exact ⟨a, c, (hb.cell (p := ⟨b, _, none⟩) (by show b < B; omega)).trans h0, h1⟩
theorem RowsG.first {R : Option Addr → List E → Prop} {w : World} {g : Option Addr} {zs : List (List E)} (h : RowsG R w g zs) (n : Nat) : RowsG R w g (zs.take n) := by
  rcases h with h | ⟨b, off, e, hlt, hc⟩
  · exact .inl (by rw [h, List.take_nil])
  · refine .inr ⟨b, off, e, hlt, fun j x hj => hc j x ?_⟩
    rw [List.getElem?_take] at hj
    split at hj
    · exact hj
    · cases hj
theorem RowsG.vals {R : Option Addr → List E → Prop} {w : World} {b off : Nat} {zs : List (List E)} (h : RowsG R w (some ⟨b, off, none⟩) zs) : ∃ cs : List Value, cs.length = zs.length ∧ (∀ j u, cs[j]? = some u → w.cell? ((⟨b, off, none⟩ : Addr).add j) = some u) ∧ (∀ u ∈ cs, u.oneCell' = true) ∧ ∀ (j : Nat) (x : List E), zs[j]? = some x → ∃ a c, cs[j]? = some (Value.slice a x.length c) ∧ R a x := by
  rcases h with h | ⟨b', off', e, hlt, hc⟩
  · subst h
    exact ⟨[], rfl, fun j u hj => by simp at hj, fun u hu => by simp at hu, fun j x hj => by simp at hj⟩
  · injection e with e
    injection e with e1 e2
    subst e1 e2
    have key : ∀ j, j < zs.length → ∃ a c, ∃ n : Nat, w.cell? ⟨b, off + j, none⟩ = some (.slice a n c) := fun j hj => by
      obtain ⟨x, hx⟩ := get_of_lt hj
      obtain ⟨a, c, h1, _⟩ := hc j x hx
      exact ⟨a, c, _, h1⟩
    have hg : ∀ j, j < zs.length → ((List.range zs.length).map fun j => (w.cell? ⟨b, off + j, none⟩).getD undef)[j]? = some ((w.cell? ⟨b, off + j, none⟩).getD undef) := fun j hj => by
      rw [List.getElem?_map, List.getElem?_range hj]
      rfl
    refine ⟨(List.range zs.length).map fun j => (w.cell? ⟨b, off + j, none⟩).getD undef, by simp, fun j u hj => ?_, fun u hu => ?_, fun j x hj => ?_⟩
    · have hjl : j < zs.length := by have := (List.getElem?_eq_some_iff.1 hj).1; simpa using this
      rw [hg j hjl] at hj
      obtain ⟨a, c, n, h1⟩ := key j hjl
      rw [h1] at hj
      rw [Addr.add_lit, h1]
      exact hj
    · obtain ⟨j, hj, rfl⟩ := List.mem_map.1 hu
      obtain ⟨a, c, n, h1⟩ := key j (List.mem_range.1 hj)
      rw [h1]
      rfl
    · have hjl : j < zs.length := (List.getElem?_eq_some_iff.1 hj).1
      obtain ⟨a, c, h1, h2⟩ := hc j x hj
      refine ⟨a, c, ?_, h2⟩
      rw [hg j hjl, h1]
      rfl

set_option maxRecDepth 100000 in
/-- append of patches to as many as there is room for. -/
theorem wp_append_less {R : Option Addr → List E → Prop} {w : World} {o : Oper} {a : Act} {K : Act → World → Prop} {Q : Exit → Act → World → Prop} (s x : Operand)
    (ho : o.op = .call { callee := .builtin .append, args := #[s, x], argTypes := #[57, 57] }) (b off off2 n m c : Nat) (xs ys : List (List E))
    (hs : a.eval s = .slice (some ⟨b, off, none⟩) n n) (hx : a.eval x = .slice (some ⟨b, off2, none⟩) m c) (h1 : RowsG R w (some ⟨b, off, none⟩) xs) (hl1 : xs.length = n) (h2 : RowsG R w (some ⟨b, off2, none⟩) ys) (hl2 : ys.length = m) (hm : n + m ≤ 1000) (hb : b < w.heap.size)
    (h : ∀ a' c' w', n + m ≤ c' → RowsG R w' a' (xs ++ ys) → (∀ q o p, a' = some ⟨q, o, p⟩ → q = b ∨ w.heap.size ≤ q) → Below w.heap.size w w' → K (a.put o.dst (.slice a' (n + m) c')) w') : o.wp Try.prog a w K Q := by
  obtain ⟨i0, hi, hz0, hz1, hz2⟩ := info_parts info_edits
  obtain ⟨cs, k1, k2, k3, k4⟩ := h1.vals
  obtain ⟨ds, l1, l2, l3, l4⟩ := h2.vals
  rcases Nat.eq_zero_or_pos m with h0 | h0
  · have hy : ys = [] := List.eq_nil_of_length_eq_zero (by omega)
    subst hy
    have hm0 : m = 0 := h0
    subst hm0
    have hrun := run_append_room_cells (P := Try.prog) w 57 o.type 46 i0 Try.underlying57 hi b off n n ⟨b, off2, none⟩ 0 c [] (by simp) (fun j u hj => by simp at hj) (fun u hu => by simp at hu) (by omega) (fun j hj => by simp at hj) (fun j hj => by simp at hj)
    unfold Oper.wp execOp
    simp only [ho, resolve, invoke, builtin, Sem.run_bind, Sem.run_pure, Result.andThen_ok, List.map_toArray, List.map_cons, List.map_nil, hs, hx, hrun]
    refine h _ _ _ (Nat.le_refl _) ?_ (fun q o p e => .inl (blk_inj e).symm) ?_
    · rw [List.append_nil]; exact h1
    · exact Below.refl _ _
  · obtain ⟨v', w', hr, r1, r2⟩ := run_append_arg_grows (P := Try.prog) w 57 o.type 46 i0 (.slice none 0 0) 1 24 Try.underlying57 hi hz0 hz1 hz2 rfl (by decide) ⟨b, off, none⟩ n n cs (by omega) k2 ⟨b, off2, none⟩ m c ds (by omega) l2 (by omega) (by unfold maxLen; omega) (by omega)
    obtain ⟨g, hg⟩ : ∃ g c', v' = .slice (some ⟨g, 0, none⟩) (n + m) c' := by
      obtain ⟨a', c', rfl⟩ := own_slice r1
      obtain ⟨g, hg⟩ := own_form r1 (by omega)
      exact ⟨g, c', by rw [hg]⟩
    obtain ⟨c', rfl⟩ := hg
    have hbel : Below w.heap.size w w' := (Below.refl _ _).grown r2 (Nat.le_refl _) (fun k hk => by cases hk)
    unfold Oper.wp execOp
    simp only [ho, resolve, invoke, builtin, Sem.run_bind, Sem.run_pure, Result.andThen_ok, List.map_toArray, List.map_cons, List.map_nil, hs, hx, hr]
    refine h _ _ _ (own_cap r1) (.inr ⟨g, 0, rfl, own_lt r1, fun j z hj => ?_⟩) (fun q o p e => .inr (by have h9 := own_base' r1; have h8 := blk_inj e; omega)) hbel
    rw [Nat.zero_add]
    rcases Nat.lt_or_ge j xs.length with hlt | hge
    · rw [List.getElem?_append_left hlt] at hj
      obtain ⟨a1, c1, q1, q2⟩ := k4 j z hj
      exact ⟨a1, c1, own_cell r1 (by rw [List.getElem?_append_left (by omega)]; exact q1), q2⟩
    · rw [List.getElem?_append_right hge] at hj
      obtain ⟨a1, c1, q1, q2⟩ := l4 _ z hj
      exact ⟨a1, c1, own_cell r1 (by rw [List.getElem?_append_right (by omega), k1]; exact q1), q2⟩
theorem RowsG.behind {R : Option Addr → List E → Prop} {w : World} {b off : Nat} {zs : List (List E)} (h : RowsG R w (some ⟨b, off, none⟩) zs) (n : Nat) : RowsG R w (some ⟨b, off + n, none⟩) (zs.drop n) := by
  rcases h with h | ⟨b', off', e, hlt, hc⟩
  · exact .inl (by rw [h, List.drop_nil])
  · injection e with e
    injection e with e1 e2
    subst e1 e2
    refine .inr ⟨b, off + n, rfl, hlt, fun j x hj => ?_⟩
    rw [List.getElem?_drop] at hj
    rw [Nat.add_assoc]
    exact hc (n + j) x hj

set_option maxRecDepth 100000 in
set_option maxHeartbeats 2000000 in
theorem hWithout_any (R : Option Addr → List E → Prop) (g : Option Addr) (cg n : Nat) (zs : List (List E)) (w : World) (hh : RowsG R w g zs) (hc : zs.length ≤ cg) (hn : n < zs.length) (hl : zs.length ≤ 8) :
    Calls Try.prog 57 #[.slice g zs.length cg, .int .i64 n] w fun e w' => ∃ a' c', e = .returned (.slice a' (zs.length - 1) c') ∧ zs.length - 1 ≤ c' ∧ RowsG R w' a' (zs.eraseIdx n) ∧ (∀ q o p, a' = some ⟨q, o, p⟩ → (∃ o2 p2, g = some ⟨q, o2, p2⟩) ∨ w.heap.size ≤ q) ∧ Below w.heap.size w w' := by
  obtain ⟨b, off, rfl, hb⟩ := hh.at_ hn
  have HF := Lib.hid (fun W => hFirst_any (some ⟨b, off, none⟩) cg n zs.length W (by omega) hc (by omega))
  have HE := Lib.hid (show zs.eraseIdx n = zs.take n ++ zs.drop (n + 1) from List.eraseIdx_eq_take_drop_succ _ _)
  have H1 := Lib.hid (hh.first n)
  have HWR := Lib.hid (show IntKind.i64.wrap ((n : Int) + 1) = (n : Int) + 1 from IntWalk.i64_in _ (by omega))
  have i0 : (0 : Int) ≤ (n : Int) := by omega
  have i1 : (n : Int) + 1 ≤ (zs.length : Int) := by omega
  have i2 : (zs.length : Int) ≤ (cg : Int) := by omega
  by_cases hz : cg = n + 1
  · have H2 := Lib.hid (show RowsG R w (some ⟨b, off, none⟩) (zs.drop (n + 1)) from .inl (List.drop_eq_nil_of_le (by omega)))
    subst hz
    clear hh
    go_enter Try.func57, Try.ntmps57
    go_upto_region 1 with fail
    try rename_i Qb Kb hKb
    refine wp_region_held_drew (S := (fun W2 => Below w.heap.size w W2)) (by kernel_rfl) ?_ (fun hHeld => ?_)
    · exact (Below.refl _ _).drew
    have HD := Lib.hid ((Below.refl w.heap.size w).drew)
    generalize w.drew = Wd at *
    refine wpAnyH_take (i := 0) (oi := ?oiq1) (v := (.slice (some ⟨b, off, none⟩) zs.length (n + 1))) ?hiq1 (by kernel_rfl) (by kernel_rfl) (by kernel_rfl) ?hqq1 ?hyq1 hHeld ?restq1
    case hiq1 => exact rfl
    case hqq1 => exact fun _ _ _ h => h
    case hyq1 =>
      refine Or.inl ⟨by rfl, ?_⟩
      intro w hSw
      go_simp
      (try with_reducible rfl)
    try simp only [Act.put, List.getElem_toArray, List.getElem_cons_succ, List.getElem_cons_zero, List.setIfInBounds_toArray, List.set_cons_zero, List.set_cons_succ]
    refine wpAnyH_take (i := 1) (oi := ?oiq2) (v := (.int .i64 n)) ?hiq2 (by kernel_rfl) (by kernel_rfl) (by kernel_rfl) ?hqq2 ?hyq2 hHeld ?restq2
    case hiq2 => exact rfl
    case hqq2 => exact fun _ _ _ h => h
    case hyq2 =>
      refine Or.inl ⟨by rfl, ?_⟩
      intro w hSw
      go_simp
      (try with_reducible rfl)
    try simp only [Act.put, List.getElem_toArray, List.getElem_cons_succ, List.getElem_cons_zero, List.setIfInBounds_toArray, List.set_cons_zero, List.set_cons_succ]
    refine wpAnyH_take (i := 3) (oi := ?oiq3) (v := (.slice (some ⟨b, off, none⟩) zs.length (n + 1))) ?hiq3 (by kernel_rfl) (by kernel_rfl) (by kernel_rfl) ?hqq3 ?hyq3 hHeld ?restq3
    case hiq3 => exact rfl
    case hqq3 => exact fun _ _ _ h => h
    case hyq3 =>
      refine Or.inl ⟨by rfl, ?_⟩
      intro w hSw
      go_simp
      (try with_reducible rfl)
    try simp only [Act.put, List.getElem_toArray, List.getElem_cons_succ, List.getElem_cons_zero, List.setIfInBounds_toArray, List.set_cons_zero, List.set_cons_succ]
    refine wpAnyH_take (i := 4) (oi := ?oiq4) (v := (.int .i64 n)) ?hiq4 (by kernel_rfl) (by kernel_rfl) (by kernel_rfl) ?hqq4 ?hyq4 hHeld ?restq4
    case hiq4 => exact rfl
    case hqq4 => exact fun _ _ _ h => h
    case hyq4 =>
      refine Or.inl ⟨by rfl, ?_⟩
      intro w hSw
      go_simp
      (try with_reducible rfl)
    try simp only [Act.put, List.getElem_toArray, List.getElem_cons_succ, List.getElem_cons_zero, List.setIfInBounds_toArray, List.set_cons_zero, List.set_cons_succ]
    refine wpAnyH_take (i := 5) (oi := ?oiq5) (v := (.int .i64 (n + 1))) ?hiq5 (by kernel_rfl) (by kernel_rfl) (by kernel_rfl) ?hqq5 ?hyq5 hHeld ?restq5
    case hiq5 => exact rfl
    case hqq5 => exact fun _ _ _ h => h
    case hyq5 =>
      refine Or.inl ⟨by rfl, ?_⟩
      intro w hSw
      go_simp
      (try rw [HWR.out])
      (try with_reducible rfl)
    try simp only [Act.put, List.getElem_toArray, List.getElem_cons_succ, List.getElem_cons_zero, List.setIfInBounds_toArray, List.set_cons_zero, List.set_cons_succ]
    refine wpAnyH_take (i := 6) (oi := ?oiq6) (v := (.slice (some ⟨b, off, none⟩) 0 0)) ?hiq6 (by kernel_rfl) (by kernel_rfl) (by kernel_rfl) ?hqq6 ?hyq6 hHeld ?restq6
    case hiq6 => exact rfl
    case hqq6 => exact fun _ _ _ h => h
    case hyq6 =>
      refine Or.inl ⟨by rfl, ?_⟩
      intro w hSw
      go_simp
      (try (intro hneg; exact absurd hneg (by omega)))
      (try with_reducible rfl)
    try simp only [Act.put, List.getElem_toArray, List.getElem_cons_succ, List.getElem_cons_zero, List.setIfInBounds_toArray, List.set_cons_zero, List.set_cons_succ]
    refine wpAnyH_ready (rs := [2]) (by kernel_rfl) (by simp) ?_
    refine AllReadyH.cons (o := ?or9_2) ?hr9_2 ?kr9_2 AllReadyH.nil
    case hr9_2 => exact rfl
    case kr9_2 =>
      intro K hK
      go_simp
      refine (HF.out _).mono ?_
      rintro e w5 ⟨rfl, rfl⟩
      refine hK.out _ _ HD.out (fun hHeld => ?_)
      clear hK K
      try simp only [Act.put, List.getElem_toArray, List.getElem_cons_succ, List.getElem_cons_zero, List.setIfInBounds_toArray, List.set_cons_zero, List.set_cons_succ]
      refine wpAnyH_ready (rs := [7]) (by kernel_rfl) (by simp) ?_
      refine AllReadyH.cons (o := ?or8_7) ?hr8_7 ?kr8_7 AllReadyH.nil
      case hr8_7 => exact rfl
      case kr8_7 =>
        intro K hK
        rw [if_pos (by rfl)]
        refine wp_append_less (.tmp 7) (.tmp 11) rfl b off off n 0 0 (zs.take n) (zs.drop (n + 1)) rfl rfl (H1.out.below HD.out (Nat.le_refl _)) (by rw [List.length_take]; omega) (H2.out.below HD.out (Nat.le_refl _)) (by rw [List.length_drop]; try omega) (by omega) (Nat.lt_of_lt_of_le hb HD.out.size) ?_
        intro a' c' w6 hc' hr' hq' hB6
        have HQ' := Lib.hid hq'
        clear hq'
        have hds := HD.out.size
        have HR := Lib.hid hr'
        have HB6 := Lib.hid (HD.out.trans (hB6.mono HD.out.size))
        clear hr' hB6
        refine hK.out _ _ HB6.out (fun hHeld => ?_)
        clear hK K
        try simp only [Act.put, List.getElem_toArray, List.getElem_cons_succ, List.getElem_cons_zero, List.setIfInBounds_toArray, List.set_cons_zero, List.set_cons_succ]
        refine wpAnyH_take (i := 8) (oi := ?oiq7) (v := (.slice a' (n + 0) c')) ?hiq7 (by kernel_rfl) (by kernel_rfl) (by kernel_rfl) ?hqq7 ?hyq7 hHeld ?restq7
        case hiq7 => exact rfl
        case hqq7 => exact fun _ _ _ h => h
        case hyq7 =>
          refine Or.inl ⟨by rfl, ?_⟩
          intro w hSw
          go_simp
          (try with_reducible rfl)
        try simp only [Act.put, List.getElem_toArray, List.getElem_cons_succ, List.getElem_cons_zero, List.setIfInBounds_toArray, List.set_cons_zero, List.set_cons_succ]
        refine wpAnyH_done (by kernel_rfl) ?_ _
        clear hHeld
        (try refine hKb _ _ ?_)
        go_wp2_with fail
        go_ret
        exact ⟨a', c', by (try rw [show n + 0 = zs.length - 1 by omega]); (try rfl), by omega, by rw [HE.out]; exact HR.out, fun q o p e => (HQ'.out q o p e).imp (fun h => ⟨off, none, by rw [h]⟩) (fun h => by omega), HB6.out⟩
  · have H2 := Lib.hid (hh.behind (n + 1))
    clear hh
    go_enter Try.func57, Try.ntmps57
    go_upto_region 1 with fail
    try rename_i Qb Kb hKb
    refine wp_region_held_drew (S := (fun W2 => Below w.heap.size w W2)) (by kernel_rfl) ?_ (fun hHeld => ?_)
    · exact (Below.refl _ _).drew
    have HD := Lib.hid ((Below.refl w.heap.size w).drew)
    generalize w.drew = Wd at *
    refine wpAnyH_take (i := 0) (oi := ?oiq10) (v := (.slice (some ⟨b, off, none⟩) zs.length cg)) ?hiq10 (by kernel_rfl) (by kernel_rfl) (by kernel_rfl) ?hqq10 ?hyq10 hHeld ?restq10
    case hiq10 => exact rfl
    case hqq10 => exact fun _ _ _ h => h
    case hyq10 =>
      refine Or.inl ⟨by rfl, ?_⟩
      intro w hSw
      go_simp
      (try with_reducible rfl)
    try simp only [Act.put, List.getElem_toArray, List.getElem_cons_succ, List.getElem_cons_zero, List.setIfInBounds_toArray, List.set_cons_zero, List.set_cons_succ]
    refine wpAnyH_take (i := 1) (oi := ?oiq11) (v := (.int .i64 n)) ?hiq11 (by kernel_rfl) (by kernel_rfl) (by kernel_rfl) ?hqq11 ?hyq11 hHeld ?restq11
    case hiq11 => exact rfl
    case hqq11 => exact fun _ _ _ h => h
    case hyq11 =>
      refine Or.inl ⟨by rfl, ?_⟩
      intro w hSw
      go_simp
      (try with_reducible rfl)
    try simp only [Act.put, List.getElem_toArray, List.getElem_cons_succ, List.getElem_cons_zero, List.setIfInBounds_toArray, List.set_cons_zero, List.set_cons_succ]
    refine wpAnyH_take (i := 3) (oi := ?oiq12) (v := (.slice (some ⟨b, off, none⟩) zs.length cg)) ?hiq12 (by kernel_rfl) (by kernel_rfl) (by kernel_rfl) ?hqq12 ?hyq12 hHeld ?restq12
    case hiq12 => exact rfl
    case hqq12 => exact fun _ _ _ h => h
    case hyq12 =>
      refine Or.inl ⟨by rfl, ?_⟩
      intro w hSw
      go_simp
      (try with_reducible rfl)
    try simp only [Act.put, List.getElem_toArray, List.getElem_cons_succ, List.getElem_cons_zero, List.setIfInBounds_toArray, List.set_cons_zero, List.set_cons_succ]
    refine wpAnyH_take (i := 4) (oi := ?oiq13) (v := (.int .i64 n)) ?hiq13 (by kernel_rfl) (by kernel_rfl) (by kernel_rfl) ?hqq13 ?hyq13 hHeld ?restq13
    case hiq13 => exact rfl
    case hqq13 => exact fun _ _ _ h => h
    case hyq13 =>
      refine Or.inl ⟨by rfl, ?_⟩
      intro w hSw
      go_simp
      (try with_reducible rfl)
    try simp only [Act.put, List.getElem_toArray, List.getElem_cons_succ, List.getElem_cons_zero, List.setIfInBounds_toArray, List.set_cons_zero, List.set_cons_succ]
    refine wpAnyH_take (i := 5) (oi := ?oiq14) (v := (.int .i64 (n + 1))) ?hiq14 (by kernel_rfl) (by kernel_rfl) (by kernel_rfl) ?hqq14 ?hyq14 hHeld ?restq14
    case hiq14 => exact rfl
    case hqq14 => exact fun _ _ _ h => h
    case hyq14 =>
      refine Or.inl ⟨by rfl, ?_⟩
      intro w hSw
      go_simp
      (try rw [HWR.out])
      (try with_reducible rfl)
    try simp only [Act.put, List.getElem_toArray, List.getElem_cons_succ, List.getElem_cons_zero, List.setIfInBounds_toArray, List.set_cons_zero, List.set_cons_succ]
    refine wpAnyH_take (i := 6) (oi := ?oiq15) (v := (.slice (some ⟨b, off + (n + 1), none⟩) (zs.length - (n + 1)) (cg - (n + 1)))) ?hiq15 (by kernel_rfl) (by kernel_rfl) (by kernel_rfl) ?hqq15 ?hyq15 hHeld ?restq15
    case hiq15 => exact rfl
    case hqq15 => exact fun _ _ _ h => h
    case hyq15 =>
      refine Or.inl ⟨by rfl, ?_⟩
      intro w hSw
      go_simp
      (try (intro hneg; exact absurd hneg (by omega)))
      (try with_reducible rfl)
    try simp only [Act.put, List.getElem_toArray, List.getElem_cons_succ, List.getElem_cons_zero, List.setIfInBounds_toArray, List.set_cons_zero, List.set_cons_succ]
    refine wpAnyH_ready (rs := [2]) (by kernel_rfl) (by simp) ?_
    refine AllReadyH.cons (o := ?or18_2) ?hr18_2 ?kr18_2 AllReadyH.nil
    case hr18_2 => exact rfl
    case kr18_2 =>
      intro K hK
      go_simp
      refine (HF.out _).mono ?_
      rintro e w5 ⟨rfl, rfl⟩
      refine hK.out _ _ HD.out (fun hHeld => ?_)
      clear hK K
      try simp only [Act.put, List.getElem_toArray, List.getElem_cons_succ, List.getElem_cons_zero, List.setIfInBounds_toArray, List.set_cons_zero, List.set_cons_succ]
      refine wpAnyH_ready (rs := [7]) (by kernel_rfl) (by simp) ?_
      refine AllReadyH.cons (o := ?or17_7) ?hr17_7 ?kr17_7 AllReadyH.nil
      case hr17_7 => exact rfl
      case kr17_7 =>
        intro K hK
        rw [if_pos (by rfl)]
        refine wp_append_less (.tmp 7) (.tmp 11) rfl b off (off + (n + 1)) n (zs.length - (n + 1)) (cg - (n + 1)) (zs.take n) (zs.drop (n + 1)) rfl rfl (H1.out.below HD.out (Nat.le_refl _)) (by rw [List.length_take]; omega) (H2.out.below HD.out (Nat.le_refl _)) (by rw [List.length_drop]; try omega) (by omega) (Nat.lt_of_lt_of_le hb HD.out.size) ?_
        intro a' c' w6 hc' hr' hq' hB6
        have HQ' := Lib.hid hq'
        clear hq'
        have hds := HD.out.size
        have HR := Lib.hid hr'
        have HB6 := Lib.hid (HD.out.trans (hB6.mono HD.out.size))
        clear hr' hB6
        refine hK.out _ _ HB6.out (fun hHeld => ?_)
        clear hK K
        try simp only [Act.put, List.getElem_toArray, List.getElem_cons_succ, List.getElem_cons_zero, List.setIfInBounds_toArray, List.set_cons_zero, List.set_cons_succ]
        refine wpAnyH_take (i := 8) (oi := ?oiq16) (v := (.slice a' (n + (zs.length - (n + 1))) c')) ?hiq16 (by kernel_rfl) (by kernel_rfl) (by kernel_rfl) ?hqq16 ?hyq16 hHeld ?restq16
        case hiq16 => exact rfl
        case hqq16 => exact fun _ _ _ h => h
        case hyq16 =>
          refine Or.inl ⟨by rfl, ?_⟩
          intro w hSw
          go_simp
          (try with_reducible rfl)
        try simp only [Act.put, List.getElem_toArray, List.getElem_cons_succ, List.getElem_cons_zero, List.setIfInBounds_toArray, List.set_cons_zero, List.set_cons_succ]
        refine wpAnyH_done (by kernel_rfl) ?_ _
        clear hHeld
        (try refine hKb _ _ ?_)
        go_wp2_with fail
        go_ret
        exact ⟨a', c', by (try rw [show n + (zs.length - (n + 1)) = zs.length - 1 by omega]); (try rfl), by omega, by rw [HE.out]; exact HR.out, fun q o p e => (HQ'.out q o p e).imp (fun h => ⟨off, none, by rw [h]⟩) (fun h => by omega), HB6.out⟩

end Go.Proofs.Ytikblaebfpdngaa

/- slices.Backward over the repairs of a history: the iterator's contracts. -/
set_option linter.unusedVariables false
set_option linter.unusedSimpArgs false
namespace Go.Proofs.Ytikblaebfpdngaa
open Go.RowKit Go.Shelf Tinker
attribute [local go_sem] Oper.semAt_some

/-- A repair's place in memory: its number, address, length, room. -/
structure RP where
  i : Nat
  a : Option Addr
  n : Nat
  c : Nat
abbrev NH := { x : RP // x.i < 8 ∧ True }
def encNH (x : NH) : Array Value := #[.int .i64 (x.1.i : Int), .slice x.1.a x.1.n x.1.c]

/-- The repairs rs, from the last one to the first one, lie at a slice's address. -/
def BackAtH (W : World) (b off len : Nat) (rs : List NH) : Prop := rs.length = len ∧ ∀ j x, rs[j]? = some x → x.1.i = len - 1 - j ∧
  W.cell? ⟨b, off + (len - 1 - j), none⟩ = some (.slice x.1.a x.1.n x.1.c)

set_option maxRecDepth 100000 in
set_option maxHeartbeats 2000000 in
theorem back1H_in (n : Nat) (hn : 1 ≤ n) (l Bs n₀ b off len cap : Nat) (a : Option Addr) (rs : List NH) (hlen : len ≤ 8) (ha : 0 < len → a = some ⟨b, off, none⟩ ∧ b < n₀) (J Jx : List NH → World → Prop)
    (hY : ∀ pre x W, J pre W → pre.length < len → YieldAt Fence.wide (n - 1) Try.prog l (encNH x) W fun e W' =>
      (e = .returned (.bool true) ∧ J (pre ++ [x]) W' ∧ KpB n₀ Bs W W') ∨ (e = .returned (.bool false) ∧ Jx (pre ++ [x]) W'))
    (W : World) (hBs : W.cell? ⟨Bs, 0, none⟩ = some (.slice a len cap)) (hc : BackAtH W b off len rs) (h0 : J [] W) :
    CallsIn Fence.wide n Try.prog 73 #[.func (.yield l) #[] #[], .pointer (some ⟨Bs, 0, none⟩)] W fun e W' => (∃ v, e = .returned v) ∧
      ((∃ ys, ys = rs ∧ J ys W') ∨ (∃ pre, pre <+: rs ∧ Jx pre W')) := by
  refine callsIn_of_wp Try.func73 rfl trivial ?_ rfl
  simp only [Try.ntmps73, List.size_toArray, List.length_cons, List.length_nil, Nat.reduceAdd, Nat.reduceSub, Array.replicate_succ, Array.replicate_zero, List.push_toArray, List.append_toArray, List.nil_append, List.cons_append]
  gi_wp2
  gi_loopw [3] (fun i wr => ∃ (j : Nat) (m : Int), i = .int .i64 m ∧ j ≤ len ∧ (len : Int) - 1 - j ≤ m ∧ m ≤ (len : Int) - 1 - j ∧ J (rs.take j) wr ∧ KpB n₀ Bs W wr)
    (fun i _ => (intOf i + 1).toNat)
  case atStart => exact ⟨0, _, rfl, by omega, by omega, by omega, h0, ⟨Below.refl _ _, rfl⟩⟩
  case round =>
    obtain ⟨j, m, rfl, hj, hm1, hm2, hJs, hnx⟩ := hrel
    have hB0 := (World.cell?_of_block (w := W) (w' := wr) (a := ⟨Bs, 0, none⟩) hnx.2).trans hBs
    by_cases hlt : j < len
    · obtain ⟨rfl, hb⟩ := ha (by omega)
      obtain ⟨x, hx⟩ := get_of_lt (show j < rs.length by have := hc.1; omega)
      obtain ⟨e0, c0⟩ := hc.2 j x hx
      have hx1 := x.2.1
      have em : m = (x.1.i : Int) := by omega
      subst em
      have d0 := (hnx.1.cell (p := ⟨b, _, none⟩) hb).trans c0
      rw [← e0] at d0
      obtain ⟨fn, tmps, assign, body, hy, hR⟩ := hY _ x wr hJs (by rw [List.length_take]; have := hc.1; omega)
      unfold encNH at hy
      have HX := Lib.hid hx
      have HC := Lib.hid hc
      have hxl : x.1.i < len := by omega
      clear hx hc e0 c0 ha
      generalize hA : x.1.i = xi at *
      generalize hL : Value.slice x.1.a x.1.n x.1.c = xl at *
      clear hA hL
      gi_wp2
      refine hR.mono ?_
      rintro e W3 (⟨rfl, hJ3, hk3⟩ | ⟨rfl, hJx3⟩)
      · rw [← take_snoc HX.out] at hJ3
        have HJ := Lib.hid hJ3
        clear hJ3
        gi_wp2
        go_roundw
        case rel => exact ⟨j + 1, _, rfl, by omega, by omega, by omega, HJ.out, hnx.1.trans hk3.1, hk3.2.trans hnx.2⟩
        case measure => simp [intOf]
      · rw [← take_snoc HX.out] at hJx3
        have HJ := Lib.hid hJx3
        clear hJx3
        gi_wp2
        refine bodyPost_ret (results_none rfl _ _ _) rfl ?_
        exact ⟨⟨_, rfl⟩, .inr ⟨_, List.take_prefix _ _, HJ.out⟩⟩
    · clear ha
      have hneg : m < 0 := by omega
      have ht : rs.take j = rs := List.take_of_length_le (by have := hc.1; omega)
      rw [ht] at hJs
      have HJ := Lib.hid hJs
      clear hJs ht
      gi_wp2
      go_end0
      exact ⟨⟨_, rfl⟩, .inl ⟨_, rfl, HJ.out⟩⟩

theorem backH_stops (n : Nat) (hn : 1 ≤ n) (Bs n₀ b off len cap : Nat) (a : Option Addr) (rs : List NH) (w : World) (hlen : len ≤ 8) (ha : 0 < len → a = some ⟨b, off, none⟩ ∧ b < n₀) (hBn : Bs < w.heap.size) (hn₀ : n₀ ≤ w.heap.size)
    (hBs : w.cell? ⟨Bs, 0, none⟩ = some (.slice a len cap)) (hc : BackAtH w b off len rs) :
    SeqStopsK Fence.wide n Try.prog 73 #[.pointer (some ⟨Bs, 0, none⟩)] encNH (KpB n₀ Bs) (fun ys => ys = rs) (fun pre => pre <+: rs) len w := fun l J Jx W hW _ _ hY h0 => by
  refine back1H_in n hn l Bs n₀ b off len cap a rs hlen ha J Jx hY W ((hW.cell (p := ⟨Bs, 0, none⟩) (by show Bs < _; omega)).trans hBs) ⟨hc.1, fun j x hx => ?_⟩ h0
  have hl : j < len := by have := (List.getElem?_eq_some_iff.1 hx).1; have := hc.1; omega
  have hb := (ha (by omega)).2
  obtain ⟨e0, c0⟩ := hc.2 j x hx
  exact ⟨e0, (hW.cell (p := ⟨b, _, none⟩) (by show b < _; omega)).trans c0⟩

set_option maxHeartbeats 1000000 in
theorem backwardH_any (a : Option Addr) (len cap : Nat) (w : World) :
    Calls Try.prog 55 #[.slice a len cap] w fun e w' => e = .returned (.func (.func 73) #[] #[.pointer (some ⟨w.heap.size, 0, none⟩)]) ∧ w.alloc (.cells #[.slice a len cap] 23) = w' := by
  go_enter Try.func55, Try.ntmps55
  go_wp2
  go_ret
  exact ⟨rfl, rfl⟩

/-- x is the next one behind pre. -/
def GoesBackH (rs pre : List NH) (x : NH) : Prop := ∃ j, pre = rs.take j ∧ rs[j]? = some x

set_option maxRecDepth 100000 in
set_option maxHeartbeats 2000000 in
theorem back1H_all (n : Nat) (hn : 1 ≤ n) (l Bs n₀ b off len cap : Nat) (a : Option Addr) (rs : List NH) (hlen : len ≤ 8) (ha : 0 < len → a = some ⟨b, off, none⟩ ∧ b < n₀) (J : List NH → World → Prop)
    (hY : ∀ pre x W, GoesBackH rs pre x → J pre W → YieldAt Fence.wide (n - 1) Try.prog l (encNH x) W fun e W' =>
      (e = .returned (.bool true) ∧ J (pre ++ [x]) W' ∧ KpB n₀ Bs W W') ∨ (e = .returned (.bool false) ∧ False))
    (W : World) (hBs : W.cell? ⟨Bs, 0, none⟩ = some (.slice a len cap)) (hc : BackAtH W b off len rs) (h0 : J [] W) :
    CallsIn Fence.wide n Try.prog 73 #[.func (.yield l) #[] #[], .pointer (some ⟨Bs, 0, none⟩)] W fun e W' => (∃ v, e = .returned v) ∧ J rs W' := by
  refine callsIn_of_wp Try.func73 rfl trivial ?_ rfl
  simp only [Try.ntmps73, List.size_toArray, List.length_cons, List.length_nil, Nat.reduceAdd, Nat.reduceSub, Array.replicate_succ, Array.replicate_zero, List.push_toArray, List.append_toArray, List.nil_append, List.cons_append]
  gi_wp2
  gi_loopw [3] (fun i wr => ∃ (j : Nat) (m : Int), i = .int .i64 m ∧ j ≤ len ∧ (len : Int) - 1 - j ≤ m ∧ m ≤ (len : Int) - 1 - j ∧ J (rs.take j) wr ∧ KpB n₀ Bs W wr)
    (fun i _ => (intOf i + 1).toNat)
  case atStart => exact ⟨0, _, rfl, by omega, by omega, by omega, h0, ⟨Below.refl _ _, rfl⟩⟩
  case round =>
    obtain ⟨j, m, rfl, hj, hm1, hm2, hJs, hnx⟩ := hrel
    have hB0 := (World.cell?_of_block (w := W) (w' := wr) (a := ⟨Bs, 0, none⟩) hnx.2).trans hBs
    by_cases hlt : j < len
    · obtain ⟨rfl, hb⟩ := ha (by omega)
      obtain ⟨x, hx⟩ := get_of_lt (show j < rs.length by have := hc.1; omega)
      obtain ⟨e0, c0⟩ := hc.2 j x hx
      have hx1 := x.2.1
      have em : m = (x.1.i : Int) := by omega
      subst em
      have d0 := (hnx.1.cell (p := ⟨b, _, none⟩) hb).trans c0
      rw [← e0] at d0
      obtain ⟨fn, tmps, assign, body, hy, hR⟩ := hY _ x wr ⟨j, rfl, hx⟩ hJs
      unfold encNH at hy
      have HX := Lib.hid hx
      have HC := Lib.hid hc
      have hxl : x.1.i < len := by omega
      clear hx hc e0 c0 ha
      generalize hA : x.1.i = xi at *
      generalize hL : Value.slice x.1.a x.1.n x.1.c = xl at *
      clear hA hL
      gi_wp2
      refine hR.mono ?_
      rintro e W3 (⟨rfl, hJ3, hk3⟩ | ⟨_, hJx3⟩)
      · rw [← take_snoc HX.out] at hJ3
        have HJ := Lib.hid hJ3
        clear hJ3
        gi_wp2
        go_roundw
        case rel => exact ⟨j + 1, _, rfl, by omega, by omega, by omega, HJ.out, hnx.1.trans hk3.1, hk3.2.trans hnx.2⟩
        case measure => simp [intOf]
      · exact hJx3.elim
    · clear ha
      have hneg : m < 0 := by omega
      have ht : rs.take j = rs := List.take_of_length_le (by have := hc.1; omega)
      rw [ht] at hJs
      have HJ := Lib.hid hJs
      clear hJs ht
      gi_wp2
      go_end0
      exact ⟨⟨_, rfl⟩, HJ.out⟩

theorem backH_all (n : Nat) (hn : 1 ≤ n) (Bs n₀ b off len cap : Nat) (a : Option Addr) (rs : List NH) (w : World) (hlen : len ≤ 8) (ha : 0 < len → a = some ⟨b, off, none⟩ ∧ b < n₀) (hBn : Bs < w.heap.size) (hn₀ : n₀ ≤ w.heap.size)
    (hBs : w.cell? ⟨Bs, 0, none⟩ = some (.slice a len cap)) (hc : BackAtH w b off len rs) :
    YieldsAll (GoesBackH rs) Fence.wide n Try.prog 73 #[.pointer (some ⟨Bs, 0, none⟩)] encNH (KpB n₀ Bs) rs w := fun l J W hW _ hY h0 => by
  refine back1H_all n hn l Bs n₀ b off len cap a rs hlen ha J hY W ((hW.cell (p := ⟨Bs, 0, none⟩) (by show Bs < _; omega)).trans hBs) ⟨hc.1, fun j x hx => ?_⟩ h0
  have hl : j < len := by have := (List.getElem?_eq_some_iff.1 hx).1; have := hc.1; omega
  have hb := (ha (by omega)).2
  obtain ⟨e0, c0⟩ := hc.2 j x hx
  exact ⟨e0, (hW.cell (p := ⟨b, _, none⟩) (by show b < _; omega)).trans c0⟩
/-- The repairs of a history, from the last one on. -/
theorem back_hist {w : World} {b off : Nat} {h : List (List E)} (h8 : h.length ≤ 8) (hc : ∀ j zs, h[j]? = some zs → ∃ a c, w.cell? ⟨b, off + j, none⟩ = some (.slice a zs.length c) ∧ EditsAt w a zs) :
    ∃ rs : List NH, BackAtH w b off h.length rs ∧ ∀ (j : Nat) (x : NH), rs[j]? = some x → ∃ y, h[h.length - 1 - j]? = some y ∧ x.1.n = y.length ∧ EditsAt w x.1.a y := by
  have key : ∀ j : Nat, ∃ x : NH, j < h.length → x.1.i = h.length - 1 - j ∧ w.cell? ⟨b, off + (h.length - 1 - j), none⟩ = some (.slice x.1.a x.1.n x.1.c) ∧ ∃ y, h[h.length - 1 - j]? = some y ∧ x.1.n = y.length ∧ EditsAt w x.1.a y := fun j => by
    by_cases hj : j < h.length
    · obtain ⟨y, hy⟩ := get_of_lt (show h.length - 1 - j < h.length by omega)
      obtain ⟨a, c, h1, h2⟩ := hc _ y hy
      exact ⟨⟨⟨h.length - 1 - j, a, y.length, c⟩, by show h.length - 1 - j < 8; omega, trivial⟩, fun _ => ⟨rfl, h1, y, hy, rfl, h2⟩⟩
    · exact ⟨⟨⟨0, none, 0, 0⟩, by decide, trivial⟩, fun h => absurd h hj⟩
  obtain ⟨F, hF⟩ := Classical.axiomOfChoice key
  have hg : ∀ (j : Nat) (x : NH), ((List.range h.length).map F)[j]? = some x → j < h.length ∧ F j = x := fun j x hx => by
    have hj : j < h.length := by have := (List.getElem?_eq_some_iff.1 hx).1; simpa using this
    rw [List.getElem?_map, List.getElem?_range hj] at hx
    exact ⟨hj, by simpa using hx⟩
  refine ⟨(List.range h.length).map F, ⟨by simp, fun j x hx => ?_⟩, fun j x hx => ?_⟩
  · obtain ⟨hj, rfl⟩ := hg j x hx
    exact ⟨(hF j hj).1, (hF j hj).2.1⟩
  · obtain ⟨hj, rfl⟩ := hg j x hx
    exact (hF j hj).2.2

end Go.Proofs.Ytikblaebfpdngaa

/- Revert of story: the state of its loop. -/
set_option linter.unusedVariables false
set_option linter.unusedSimpArgs false
namespace Tinker
/-- The history without what is taken back, from the repair k on. -/
def rstL (h : List (List E)) (s : List Nat) (k : Nat) : List (List E) := h.take k ++ ((List.range' k (h.length - k)).filter (lefB h s)).map (rpA h)
theorem rstL_all (h : List (List E)) (s : List Nat) : rstL h s h.length = h := by
  unfold rstL
  rw [Nat.sub_self, List.take_length]
  simp
theorem rstL_0 (h : List (List E)) (s : List Nat) : rstL h s 0 = (lefL h s).map (rpA h) := by
  unfold rstL lefL
  rw [Nat.sub_zero, List.take_zero, List.nil_append, List.range_eq_range']
theorem rst_get {h : List (List E)} {i : Nat} (hi : i < h.length) : h.take (i + 1) = h.take i ++ [rpA h i] := by
  rw [List.take_add_one]
  obtain ⟨x, hx⟩ : ∃ x, h[i]? = some x := ⟨_, List.getElem?_eq_getElem hi⟩
  rw [hx, rpA_at hx]
  rfl
theorem rstL_yes {h : List (List E)} {s : List Nat} {i : Nat} (hi : i < h.length) (hl : lefB h s i = true) : rstL h s i = rstL h s (i + 1) := by
  unfold rstL
  obtain ⟨d, hd⟩ : ∃ d, h.length - i = d + 1 := ⟨h.length - i - 1, by omega⟩
  rw [hd, show h.length - (i + 1) = d by omega, List.range'_succ, List.filter_cons_of_pos hl, rst_get hi, List.map_cons, List.append_assoc]
  rfl
theorem rstL_no {h : List (List E)} {s : List Nat} {i : Nat} (hi : i < h.length) (hl : lefB h s i = false) : rstL h s i = (rstL h s (i + 1)).eraseIdx i := by
  unfold rstL
  obtain ⟨d, hd⟩ : ∃ d, h.length - i = d + 1 := ⟨h.length - i - 1, by omega⟩
  rw [hd, show h.length - (i + 1) = d by omega, List.range'_succ, List.filter_cons_of_neg (by rw [hl]; simp), rst_get hi, List.append_assoc]
  have ht : (h.take i).length = i := by rw [List.length_take]; omega
  rw [List.eraseIdx_append_of_length_le (by omega), ht, Nat.sub_self]
  rfl
theorem rstL_len {h : List (List E)} {s : List Nat} {k : Nat} (hk : k ≤ h.length) : k ≤ (rstL h s k).length ∧ (rstL h s k).length ≤ h.length := by
  unfold rstL
  rw [List.length_append, List.length_take, List.length_map, Nat.min_eq_left hk]
  have := List.length_filter_le (lefB h s) (List.range' k (h.length - k))
  rw [List.length_range'] at this
  omega
theorem rstL_mem {h : List (List E)} {s : List Nat} {k : Nat} (hk : k ≤ h.length) : ∀ x ∈ rstL h s k, x ∈ h := by
  intro x hx
  unfold rstL at hx
  rcases List.mem_append.1 hx with hx | hx
  · exact List.mem_of_mem_take hx
  · obtain ⟨m, hm, rfl⟩ := List.mem_map.1 hx
    have := List.mem_range'_1.1 (List.mem_filter.1 hm).1
    obtain ⟨x, hx⟩ : ∃ x, h[m]? = some x := ⟨_, List.getElem?_eq_getElem (by omega)⟩
    rw [rpA_at hx]
    exact List.mem_of_getElem? hx
/-- Which repairs are left, from the repair k on. -/
def lbL (h : List (List E)) (s : List Nat) (k : Nat) : List Bool := (List.range h.length).map fun i => decide (k ≤ i) && lefB h s i
theorem lbL_len (h : List (List E)) (s : List Nat) (k : Nat) : (lbL h s k).length = h.length := by simp [lbL]
theorem lbL_get {h : List (List E)} {s : List Nat} {k i : Nat} (hi : i < h.length) : (lbL h s k).getD i false = (decide (k ≤ i) && lefB h s i) := by
  unfold lbL
  rw [List.getD_eq_getElem?_getD, List.getElem?_map, List.getElem?_range hi]
  rfl
theorem lbL_all (h : List (List E)) (s : List Nat) : lbL h s h.length = List.replicate h.length false := by
  refine List.ext_getElem? fun i => ?_
  unfold lbL
  rcases Nat.lt_or_ge i h.length with hi | hi
  · rw [List.getElem?_map, List.getElem?_range hi, List.getElem?_replicate, if_pos hi]
    have : decide (h.length ≤ i) = false := by simp; omega
    simp [this]
  · rw [List.getElem?_eq_none (by simpa using hi), List.getElem?_eq_none (by simpa using hi)]
theorem lbL_put {h : List (List E)} {s : List Nat} (i : Nat) : (lbL h s (i + 1)).set i (lefB h s i) = lbL h s i := by
  refine List.ext_getElem? fun j => ?_
  unfold lbL
  rcases Nat.lt_or_ge j h.length with hj | hj
  · rw [List.getElem?_set, List.getElem?_map, List.getElem?_map, List.getElem?_range hj]
    by_cases hk : i = j
    · subst hk
      rw [if_pos rfl, if_pos (by simpa using hj)]
      simp
    · rw [if_neg hk]
      have h1 : decide (i + 1 ≤ j) = decide (i ≤ j) := by rw [decide_eq_decide]; omega
      simp [h1]
  · rw [List.getElem?_eq_none (by simpa using hj), List.getElem?_eq_none (by simpa using hj)]
theorem lbL_plc (h : List (List E)) (s : List Nat) : plc (lbL h s 0) = ints (lefL h s) := by
  unfold lefL
  exact plc_ints (lbL_len h s 0) fun i hi => by rw [lbL_get hi]; simp
/-- What Revert answers. -/
def rvC (ps : List L) (h : List (List E)) (zs : List Int) : Int := if vst ps h = 0 then (if isSetB zs && allBtw zs 0 ((h.length : Int) - 1) then 0 else 1) else vst ps h
def natS (zs : List Int) : List Nat := zs.map Int.toNat
def rvR (ps : List L) (h : List (List E)) (zs : List Int) : List L := if rvC ps h zs = 0 then plyL ps h (lefL h (natS zs)) else []
def rvS (ps : List L) (h : List (List E)) (zs : List Int) : List Int := if rvC ps h zs = 0 then ints (lefL h (natS zs)) else []
theorem natS_ints {zs : List Int} {n : Nat} (hb : allBtw zs 0 ((n : Int) - 1) = true) : zs = ints (natS zs) ∧ ∀ m ∈ natS zs, m < n := by
  have hz : ∀ z ∈ zs, 0 ≤ z ∧ z ≤ (n : Int) - 1 := fun z hz => btw_true.1 (List.all_eq_true.1 hb z hz)
  constructor
  · unfold ints natS
    rw [List.map_map]
    refine (List.map_id zs).symm.trans (List.map_congr_left fun z h => ?_)
    have := (hz z h).1
    show z = ((z.toNat : Nat) : Int)
    omega
  · intro m hm
    unfold natS at hm
    obtain ⟨z, h, rfl⟩ := List.mem_map.1 hm
    have := hz z h
    omega
theorem rst_play {ps : List L} {h : List (List E)} {s : List Nat} : plyF ps (rstL h s 0) = plyL ps h (lefL h s) := by rw [rstL_0, plyL_F]
end Tinker
namespace Go.Proofs.Ytikblaebfpdngaa
open Go.RowKit Go.Shelf Tinker

/-- What a world keeps where a block that holds no cells may turn. -/
theorem cell_walks {X Y : World} {row : Option Nat} (hg : X.grownBy Y row) (hr : ∀ r, row = some r → ∃ o : Obj, X.heap[r]? = some o ∧ o.isCells = false) {p : Addr} {v : Value} (h : X.cell? p = some v) : Y.cell? p = some v := by
  have hl := World.block_lt_of_cell? X p h
  have hb : Y.heap[p.block]? = X.heap[p.block]? := by
    refine hg.block p.block hl ?_
    intro e
    obtain ⟨o, ho, hc⟩ := hr p.block e.symm
    unfold World.cell? at h
    rw [ho] at h
    cases o <;> simp_all [Obj.isCells]
  exact (World.cell?_of_block hb).trans h
theorem RowsG.walks {R : Option Addr → List E → Prop} {X Y : World} {row : Option Nat} {g : Option Addr} {fs : List (List E)} (h : RowsG R X g fs) (hg : X.grownBy Y row) (hr : ∀ r, row = some r → ∃ o : Obj, X.heap[r]? = some o ∧ o.isCells = false) : RowsG R Y g fs := by
  rcases h with h | ⟨b, off, e, hlt, hc⟩
  · exact .inl h
  · refine .inr ⟨b, off, e, Nat.lt_of_lt_of_le hlt hg.size, fun j zs hj => ?_⟩
    obtain ⟨a, c, h0, h1⟩ := hc j zs hj
    exact ⟨a, c, cell_walks hg hr h0, h1⟩
theorem RowsG.off {R : Option Addr → List E → Prop} {X Y : World} {q : Nat} {g : Option Addr} {fs : List (List E)} (h : RowsG R X g fs) (ho : Off q X Y) (hq : fs = [] ∨ ∀ b o p, g = some ⟨b, o, p⟩ → b ≠ q) : RowsG R Y g fs := by
  rcases hq with hq | hq
  · exact .inl hq
  rcases h with h | ⟨b, off, e, hlt, hc⟩
  · exact .inl h
  · refine .inr ⟨b, off, e, Nat.lt_of_lt_of_le hlt ho.size, fun j zs hj => ?_⟩
    obtain ⟨a, c, h0, h1⟩ := hc j zs hj
    exact ⟨a, c, (World.cell?_of_block (a := ⟨b, off + j, none⟩) (ho.block b hlt (hq b off none e))).trans h0, h1⟩
/-- The loop's state. -/
structure RvI (g b : Option Addr) (cg n cb m : Nat) (K : Nat) (h : List (List E)) (s : List Nat) (w : World) (k : Nat) (W : World) : Prop where
  bH : W.heap[w.heap.size]? = some (.cells #[.slice g n cg] 23 (0, 0))
  bS : W.heap[w.heap.size + 1]? = some (.cells #[.slice b m cb] 35 (0, 0))
  bR : ∃ a c, W.heap[K]? = some (.cells #[.slice a (rstL h s k).length c] 57 (0, 0)) ∧ (rstL h s k).length ≤ c ∧ RowsG (EditsAt w) W a (rstL h s k) ∧ (rstL h s k = [] ∨ ∀ q o p, a = some ⟨q, o, p⟩ → q < w.heap.size ∨ K + 4 ≤ q)
  bL : W.heap[K + 1]? = some (.cells (bv (lbL h s k)) 4 (0, 0))
  bX : W.heap[K + 2]? = some (.cells #[.slice (some ⟨K + 1, 0, none⟩) n n] 70 (0, 0))
  bB : W.heap[K + 3]? = some (.cells #[.slice g n cg] 23 (0, 0))
  below : Below w.heap.size w W
section
variable {g b : Option Addr} {cg n cb m : Nat} {K : Nat} {h : List (List E)} {s : List Nat} {w : World} {k : Nat} {W W' : World}
theorem RvI.lower (hI : RvI g b cg n cb m K h s w k W) (hb : Below W.heap.size W W') : RvI g b cg n cb m K h s w k W' := by
  obtain ⟨a, c, k1, k2, k3, k4⟩ := hI.bR
  exact ⟨hp_below hI.bH hb (hp_lt hI.bH), hp_below hI.bS hb (hp_lt hI.bS), ⟨a, c, hp_below k1 hb (hp_lt k1), k2, k3.below hb (Nat.le_refl _), k4⟩, hp_below hI.bL hb (hp_lt hI.bL), hp_below hI.bX hb (hp_lt hI.bX), hp_below hI.bB hb (hp_lt hI.bB), hI.below.trans (hb.mono hI.below.size)⟩
theorem rvI_own (g b : Option Addr) (cg n cb m : Nat) (K : Nat) (h : List (List E)) (s : List Nat) (w : World) {β : Type} (f : β → Nat) (B : Nat) (hB : w.heap.size ≤ B) : OwnFrom B (fun (pre : β) W => RvI g b cg n cb m K h s w (f pre) W) := fun pre X Y row hs hg hr => by
  obtain ⟨a, c, k1, k2, k3, k4⟩ := hs.bR
  have hr2 : ∀ r, row = some r → ∃ o : Obj, X.heap[r]? = some o ∧ o.isCells = false := fun r e => (hr r e).2
  have up : ∀ {i : Nat} {cs : Array Value} {t : TypeId}, X.heap[i]? = some (.cells cs t (0, 0)) → Y.heap[i]? = some (.cells cs t (0, 0)) := fun {i cs t} hi => (own_heap i (fun _ : Unit => .cells cs t (0, 0)) (fun _ => rfl)) () X Y row hi hg hr2
  exact ⟨up hs.bH, up hs.bS, ⟨a, c, up k1, k2, k3.walks hg hr2, k4⟩, up hs.bL, up hs.bX, up hs.bB, hs.below.grown hg hs.below.size (fun k e => Nat.le_trans hB (hr k e).1)⟩
/-- The answer for one repair is stored: it is left. -/
theorem RvI.putL (hI : RvI g b cg n cb m K h s w (k + 1) W) (hK : w.heap.size + 2 ≤ K) (hk : k < h.length) : W.heap.size = W.heap.size ∧ (lefB h s k = true → RvI g b cg n cb m K h s w k (W.setCell ⟨K + 1, k, none⟩ (.bool true))) := by
  refine ⟨rfl, fun hl => ?_⟩
  obtain ⟨a, c, k1, k2, k3, k4⟩ := hI.bR
  have ho := Off.setCell (K + 1) W k (.bool true)
  have up : ∀ {i : Nat} {o : Obj}, i ≠ K + 1 → W.heap[i]? = some o → (W.setCell ⟨K + 1, k, none⟩ (.bool true)).heap[i]? = some o := fun {i o} hn hi => (ho.block i (hp_lt hi) hn).trans hi
  refine ⟨up (by omega) hI.bH, up (by omega) hI.bS, ⟨a, c, ?_, ?_, ?_, ?_⟩, ?_, up (by omega) hI.bX, up (by omega) hI.bB, hI.below.trans (ho.below (by omega) hI.below.size)⟩
  · rw [rstL_yes hk hl]; exact up (by omega) k1
  · rw [rstL_yes hk hl]; exact k2
  · rw [rstL_yes hk hl]; exact k3.off ho (k4.imp id fun k4 q o p e => by have := k4 q o p e; omega)
  · rw [rstL_yes hk hl]; exact k4
  · have hq := hp_put hI.bL k (.bool true)
    rw [bv_set, ← hl, lbL_put] at hq
    rw [hl] at hq
    exact hq
/-- It is taken back: what is stored, and the rest without it. -/
theorem RvI.putN (hI : RvI g b cg n cb m K h s w (k + 1) W) (hK : w.heap.size + 2 ≤ K) (hk : k < h.length) (hl : lefB h s k = false) (hB : Below (W.setCell ⟨K + 1, k, none⟩ (.bool false)).heap.size (W.setCell ⟨K + 1, k, none⟩ (.bool false)) W') {a' : Option Addr} {c' : Nat}
    (hc : (rstL h s k).length ≤ c') (hR : RowsG (EditsAt w) W' a' (rstL h s k)) (hq : rstL h s k = [] ∨ ∀ q o p, a' = some ⟨q, o, p⟩ → q < w.heap.size ∨ K + 4 ≤ q) : RvI g b cg n cb m K h s w k (W'.setCell ⟨K, 0, none⟩ (.slice a' (rstL h s k).length c')) := by
  obtain ⟨a, c, k1, k2, k3, k4⟩ := hI.bR
  have ho := Off.setCell (K + 1) W k (.bool false)
  have up : ∀ {i : Nat} {o : Obj}, i ≠ K + 1 → W.heap[i]? = some o → W'.heap[i]? = some o := fun {i o} hn hi => hp_below ((ho.block i (hp_lt hi) hn).trans hi) hB (by have := hp_lt hi; have := ho.size; omega)
  have ho2 := Off.setCell K W' 0 (.slice a' (rstL h s k).length c')
  have up2 : ∀ {i : Nat} {o : Obj}, i ≠ K → i ≠ K + 1 → W.heap[i]? = some o → (W'.setCell ⟨K, 0, none⟩ (.slice a' (rstL h s k).length c')).heap[i]? = some o := fun {i o} hn hn1 hi => (ho2.block i (hp_lt (up hn1 hi)) hn).trans (up hn1 hi)
  have hw : Below w.heap.size w W' := (hI.below.trans (ho.below (by omega) hI.below.size)).trans (hB.mono (by have := hI.below.size; have := ho.size; omega))
  refine ⟨up2 (by omega) (by omega) hI.bH, up2 (by omega) (by omega) hI.bS, ⟨a', c', ?_, hc, hR.off ho2 (hq.imp id fun hq q o p e => by have := hq q o p e; omega), hq⟩, ?_, up2 (by omega) (by omega) hI.bX, up2 (by omega) (by omega) hI.bB, hw.trans (ho2.below (by omega) hw.size)⟩
  · have h1 := hp_put (up (by omega) k1) 0 (.slice a' (rstL h s k).length c')
    exact h1
  · have hq := hp_put hI.bL k (.bool false)
    rw [bv_set, ← hl, lbL_put] at hq
    rw [hl] at hq
    have h2 := hp_below hq hB (by have := hp_lt hq; omega)
    exact (ho2.block _ (hp_lt h2) (by omega)).trans h2
end

end Go.Proofs.Ytikblaebfpdngaa

/- Revert of story: contract. -/
set_option linter.unusedVariables false
set_option linter.unusedSimpArgs false
namespace Go.Proofs.Ytikblaebfpdngaa
open Go.RowKit Go.Shelf Tinker
attribute [local go_sem] Oper.semAt_some

theorem upon_wide {n : Nat} {P : Program} {o : Oper} {a : Act} {K : Act → World → Prop} {Q : Exit → Act → World → Prop} {r : Result Next} (h : o.upon P a K Q r) : o.uponIn Fence.wide n P a K Q r := by
  cases r with
  | ok x w =>
    cases x with
    | value v => exact h
    | skip => exact h
    | defer d => exact h
    | enter f args => exact ⟨(fun h => by cases h), callsIn_wide.2 h⟩
    | row r args => exact ⟨(fun h => by cases h), fun c cs _ => let ⟨v, w', q, s⟩ := h c cs; ⟨v, w', q, stepsIn_wide.2 s⟩⟩
    | round _ _ _ _ _ => exact h.elim
    | _ => exact h.elim
  | halt x w =>
    cases x <;> exact h
theorem op_wide {n : Nat} {P : Program} {ops : Array Oper} {Q : Exit → Act → World → Prop} (hd : ∀ (i : Nat) (o : Oper), ops[i]? = some o → ∀ c, o.op ≠ .defer c) (hno : ¬ LetsOut Q) {i : Nat} {K K' : Act → World → Prop} (hK : ∀ a w, K a w → K' a w) {a : Act} {w : World} (h : wpOp P ops Q i K a w) : wpOpIn Fence.wide n P ops Q i K' a w := by
  have h := wpOp_mono hK h
  unfold wpOp at h
  unfold wpOpIn
  cases ho : ops[i]? with
  | none => simp only [ho] at h ⊢; exact h
  | some o =>
    simp only [ho] at h ⊢
    split at h
    · rename_i hw
      rw [if_pos hw]
      rcases h with h | h
      · refine ⟨fun _ _ => trivial, ?_⟩
        rw [Oper.semAt_eq _ _ _ (hd i o ho)]
        exact upon_wide h
      · exact (hno h.2).elim
    · rename_i hw
      rw [if_neg hw]
      exact ⟨fun _ _ => trivial, h⟩
theorem any_wide {n : Nat} {P : Program} {md : Region.Mode} {ops : Array Oper} {Q : Exit → Act → World → Prop} (hd : ∀ (i : Nat) (o : Oper), ops[i]? = some o → ∀ c, o.op ≠ .defer c) (hno : ¬ LetsOut Q) :
    ∀ (fuel : Nat) (listed : Array Bool) (a : Act) (w : World), wpAny P md ops Q fuel listed a w → wpAnyIn Fence.wide n P md ops Q fuel listed a w
  | 0, _, _, _, h => h
  | fuel + 1, _, _, _, h => ⟨h.1, fun i hi => op_wide hd hno (fun a w => any_wide hd hno fuel _ a w) (h.2 i hi)⟩
/-- A region that draws, inside the fence: its walk is the walk outside. -/
theorem region_wide {n id : Nat} {P : Program} {ops : Array Oper} {Q : Exit → Act → World → Prop} {S : World → Prop} {a : Act} {w : World} (hm : P.follows .mixedOrders = true) (hd : noDefer ops = true) (hno : ¬ LetsOut Q) (hS : S w.drew)
    (h : S w.drew → wpAnyH P .any ops Q S ops.size (Array.replicate ops.size false) a w.drew) : (Code.region id ops true).wpIn Fence.wide n P Q a w :=
  wpIn_region_any hm (any_wide (noDefer_spec hd) hno _ _ _ _ (wpAny_of_held _ _ _ _ (h hS)))

theorem rowsG_at {w W : World} {a : Option Addr} {zs : List (List E)} (h : RowsG (EditsAt w) W a zs) (hB : Below w.heap.size w W) : RowsEAt W a zs := by
  rcases h with h | ⟨b, off, e, hlt, hc⟩
  · exact .inl h
  · refine .inr ⟨b, off, e, hlt, fun j z hj => ?_⟩
    obtain ⟨ax, cx, r1, r2⟩ := hc j z hj
    exact ⟨ax, cx, r1, r2.below hB (Nat.le_refl _)⟩
theorem cell_putObj {W : World} {l : Nat} {o o' : Obj} (hl : W.heap[l]? = some o) (ho : o.isCells = false) {p : Addr} {v : Value} (h : W.cell? p = some v) : (W.putObj l o').cell? p = some v :=
  cell_walks (grownBy_putObj' W l o') (fun r e => by cases e; exact ⟨o, hl, ho⟩) h
theorem lines_putObj {W : World} {l : Nat} {o o' : Obj} {a : Option Addr} {ps : List L} (h : LinesAt W a ps) (hl : W.heap[l]? = some o) (ho : o.isCells = false) : LinesAt (W.putObj l o') a ps := by
  rcases h with h | ⟨b, off, e, hlt, hc⟩
  · exact .inl h
  · refine .inr ⟨b, off, e, Nat.lt_of_lt_of_le hlt (grownBy_putObj' W l o').size, fun j x hj => ?_⟩
    obtain ⟨c0, c1, c2, c3⟩ := hc j x hj
    exact ⟨cell_putObj hl ho c0, cell_putObj hl ho c1, cell_putObj hl ho c2, cell_putObj hl ho c3⟩
theorem ints_putObj {W : World} {l : Nat} {o o' : Obj} {a : Option Addr} {zs : List Int} (h : IntsAt W a zs) (hl : W.heap[l]? = some o) (ho : o.isCells = false) : IntsAt (W.putObj l o') a zs := by
  rcases h with h | ⟨b, off, e, hlt, hc⟩
  · exact .inl h
  · exact .inr ⟨b, off, e, Nat.lt_of_lt_of_le hlt (grownBy_putObj' W l o').size, fun j x hj => cell_putObj hl ho (hc j x hj)⟩
/-- Where a walk ends as usual. -/
def NormQ (Q : Exit → Act → World → Prop) : Exit → Act → World → Prop
  | .normal, a, w => Q .normal a w
  | _, _, _ => False
theorem region_norm {n id : Nat} {P : Program} {ops : Array Oper} {Q : Exit → Act → World → Prop} {S : World → Prop} {a : Act} {w : World} (hm : P.follows .mixedOrders = true) (hd : noDefer ops = true) (hS : S w.drew)
    (h : S w.drew → wpAnyH P .any ops (NormQ Q) S ops.size (Array.replicate ops.size false) a w.drew) : (Code.region id ops true).wpIn Fence.wide n P Q a w := by
  refine wpIn_mono (region_wide (Q := NormQ Q) hm hd (by rintro ⟨_, _, h9⟩; exact h9) hS h) ?_
  intro e b v h9
  cases e <;> first | exact h9 | exact h9.elim
/-- Lines, numbers and a code. -/
def HandsRev (ps : List L) (zs : List Int) (c : Int) (w : World) (e : Ending) (w' : World) : Prop :=
  ∃ a ca b cb, e = .returned (.tuple #[.slice a ps.length ca, .slice b zs.length cb, .int .i64 c]) ∧ LinesAt w' a ps ∧ IntsAt w' b zs ∧ Below w.heap.size w w'

set_option maxRecDepth 100000 in
set_option maxHeartbeats 20000000 in
theorem stRevert_any (a g b : Option Addr) (ca cg cb : Nat) (ps : List L) (h : List (List E)) (zs : List Int) (w : World) (hp : LinesAt w a ps) (hh : RowsEAt w g h) (hz : IntsAt w b zs) (hpl : ps.length ≤ 1000) (hhl : h.length ≤ 1000) (hm : ∀ x ∈ h, x.length ≤ 1000) (hzl : zs.length ≤ 1000) (hcg : h.length ≤ cg) :
    Calls Try.prog 27 #[.slice a ps.length ca, .slice g h.length cg, .slice b zs.length cb] w (HandsRev (rvR ps h zs) (rvS ps h zs) (rvC ps h zs) w) := by
  have HV := Lib.hid (fun w h1 h2 => stVal_any a g ca cg ps h w h1 h2 hpl hhl hm)
  have HS := Lib.hid (fun w h1 => kIsSet_any b cb zs w h1 hzl)
  have HT := Lib.hid (fun w h1 => areBetween_any b cb zs 0 ((h.length : Int) - 1) w h1 (by omega))
  have HP := Lib.hid hp
  have HH := Lib.hid hh
  have HZ := Lib.hid hz
  by_cases hv : vst ps h = 0
  · rw [hv] at HV
    cases hs : isSetB zs
    · have hrc : rvC ps h zs = 1 := by unfold rvC; rw [if_pos hv, hs]; rfl
      have hv9 : rvC ps h zs ≠ 0 := by rw [hrc]; decide
      have HRR := Lib.hid (show rvR ps h zs = [] by unfold rvR; rw [if_neg hv9])
      have HRS := Lib.hid (show rvS ps h zs = [] by unfold rvS; rw [if_neg hv9])
      rw [HRR.out, HRS.out, hrc]
      rw [hs] at HS
      clear hrc hv9 HRR HRS hv hp hh hz hs
      have hb0 := ((Below.refl w.heap.size w).alloc (Nat.le_refl _) (.cells #[.slice g h.length cg] 23 (0, 0))).alloc (by simp) (.cells #[.slice b zs.length cb] 35 (0, 0))
      have e1 := hp_alloc (o' := (.cells #[.slice b zs.length cb] 35 (0, 0))) (heap_new w (.cells #[.slice g h.length cg] 23 (0, 0)))
      have e2 := heap_new (w.alloc (.cells #[.slice g h.length cg] 23 (0, 0))) (.cells #[.slice b zs.length cb] 35 (0, 0))
      have s1 : (w.alloc (.cells #[.slice g h.length cg] 23 (0, 0))).heap.size = w.heap.size + 1 := by simp
      rw [s1] at e2
      obtain ⟨w0, hw0⟩ : ∃ w0, w0 = (w.alloc (.cells #[.slice g h.length cg] 23 (0, 0))).alloc (.cells #[.slice b zs.length cb] 35 (0, 0)) := ⟨_, rfl⟩
      rw [← hw0] at hb0 e1 e2
      have HW0 := Lib.hid hw0
      have y0 := hp_cell e1 (j := 0) rfl
      have y1 := hp_cell e2 (j := 0) rfl
      have HB0 := Lib.hid hb0
      have HE1 := Lib.hid e1
      have HE2 := Lib.hid e2
      clear hb0 e1 e2 hw0 s1
      go_enter Try.func27, Try.ntmps27
      go_upto_region 1 with fail
      rw [← HW0.out]
      go_wp2_with fail
      refine (HV.out _ (HP.out.below HB0.out (Nat.le_refl _)) (HH.out.below HB0.out (Nat.le_refl _))).mono ?_
      rintro e w1 ⟨rfl, hB1⟩
      have HB1 := Lib.hid (HB0.out.trans (hB1.mono HB0.out.size))
      have y2 := hp_cell (hp_below HE2.out hB1 (hp_lt HE2.out)) (j := 0) rfl
      have y3 := hp_cell (hp_below HE1.out hB1 (hp_lt HE1.out)) (j := 0) rfl
      have HE1 := Lib.hid (hp_below HE1.out hB1 (hp_lt HE1.out))
      have HE2 := Lib.hid (hp_below HE2.out hB1 (hp_lt HE2.out))
      clear hB1 y0 y1
      go_wp2_with fail
      refine (HS.out _ (HZ.out.below HB1.out (Nat.le_refl _))).mono ?_
      rintro e w2 ⟨rfl, hB2⟩
      have HB2 := Lib.hid (HB1.out.trans (hB2.mono HB1.out.size))
      have y0 := hp_cell (hp_below HE2.out hB2 (hp_lt HE2.out)) (j := 0) rfl
      have y1 := hp_cell (hp_below HE1.out hB2 (hp_lt HE1.out)) (j := 0) rfl
      clear hB2 y2 y3
      go_wp2_with fail
      go_ret3
      exact ⟨none, 0, none, 0, rfl, .inl rfl, .inl rfl, HB2.out⟩
    · cases hb : allBtw zs 0 ((h.length : Int) - 1)
      · have hrc : rvC ps h zs = 1 := by unfold rvC; rw [if_pos hv, hs, hb]; rfl
        have hv9 : rvC ps h zs ≠ 0 := by rw [hrc]; decide
        have HRR := Lib.hid (show rvR ps h zs = [] by unfold rvR; rw [if_neg hv9])
        have HRS := Lib.hid (show rvS ps h zs = [] by unfold rvS; rw [if_neg hv9])
        rw [HRR.out, HRS.out, hrc]
        rw [hs] at HS
        rw [hb] at HT
        clear hrc hv9 HRR HRS hv hp hh hz hs hb
        have hb0 := ((Below.refl w.heap.size w).alloc (Nat.le_refl _) (.cells #[.slice g h.length cg] 23 (0, 0))).alloc (by simp) (.cells #[.slice b zs.length cb] 35 (0, 0))
        have e1 := hp_alloc (o' := (.cells #[.slice b zs.length cb] 35 (0, 0))) (heap_new w (.cells #[.slice g h.length cg] 23 (0, 0)))
        have e2 := heap_new (w.alloc (.cells #[.slice g h.length cg] 23 (0, 0))) (.cells #[.slice b zs.length cb] 35 (0, 0))
        have s1 : (w.alloc (.cells #[.slice g h.length cg] 23 (0, 0))).heap.size = w.heap.size + 1 := by simp
        rw [s1] at e2
        obtain ⟨w0, hw0⟩ : ∃ w0, w0 = (w.alloc (.cells #[.slice g h.length cg] 23 (0, 0))).alloc (.cells #[.slice b zs.length cb] 35 (0, 0)) := ⟨_, rfl⟩
        rw [← hw0] at hb0 e1 e2
        have HW0 := Lib.hid hw0
        have y0 := hp_cell e1 (j := 0) rfl
        have y1 := hp_cell e2 (j := 0) rfl
        have HB0 := Lib.hid hb0
        have HE1 := Lib.hid e1
        have HE2 := Lib.hid e2
        clear hb0 e1 e2 hw0 s1
        go_enter Try.func27, Try.ntmps27
        go_upto_region 1 with fail
        rw [← HW0.out]
        go_wp2_with fail
        refine (HV.out _ (HP.out.below HB0.out (Nat.le_refl _)) (HH.out.below HB0.out (Nat.le_refl _))).mono ?_
        rintro e w1 ⟨rfl, hB1⟩
        have HB1 := Lib.hid (HB0.out.trans (hB1.mono HB0.out.size))
        have y2 := hp_cell (hp_below HE2.out hB1 (hp_lt HE2.out)) (j := 0) rfl
        have y3 := hp_cell (hp_below HE1.out hB1 (hp_lt HE1.out)) (j := 0) rfl
        have HE1 := Lib.hid (hp_below HE1.out hB1 (hp_lt HE1.out))
        have HE2 := Lib.hid (hp_below HE2.out hB1 (hp_lt HE2.out))
        clear hB1 y0 y1
        go_wp2_with fail
        refine (HS.out _ (HZ.out.below HB1.out (Nat.le_refl _))).mono ?_
        rintro e w2 ⟨rfl, hB2⟩
        have HB2 := Lib.hid (HB1.out.trans (hB2.mono HB1.out.size))
        have y0 := hp_cell (hp_below HE2.out hB2 (hp_lt HE2.out)) (j := 0) rfl
        have y1 := hp_cell (hp_below HE1.out hB2 (hp_lt HE1.out)) (j := 0) rfl
        clear hB2 y2 y3
        go_wp2_with fail
        refine (HT.out _ (HZ.out.below HB2.out (Nat.le_refl _))).mono ?_
        rintro e w3 ⟨rfl, rfl⟩
        go_wp2_with fail
        go_ret3
        exact ⟨none, 0, none, 0, rfl, .inl rfl, .inl rfl, HB2.out⟩
      · have hrc : rvC ps h zs = 0 := by unfold rvC; rw [if_pos hv, hs, hb]; rfl
        have hok := okZ_of hv
        have h8 := (vst_ok hv).2.1
        obtain ⟨hzi, hzm⟩ := natS_ints (n := h.length) hb
        have HRR := Lib.hid (show rvR ps h zs = plyF ps (rstL h (natS zs) 0) by unfold rvR; rw [if_pos hrc, rst_play])
        have HRS := Lib.hid (show rvS ps h zs = plc (lbL h (natS zs) 0) by unfold rvS; rw [if_pos hrc, lbL_plc])
        have HDP := Lib.hid (fun n W h1 h2 hn => dependsOn_any g b cg cb h zs n W h1 h2 h8 hm hn hzl)
        have HDL := Lib.hid (fun n => show dpB h zs n = !lefB h (natS zs) n from by have h9 := dpB_lef hzm n; rw [← hzi] at h9; exact h9)
        have hmk := mkBools h.length h8
        rw [HRR.out, HRS.out, hrc]
        rw [hs] at HS
        rw [hb] at HT
        have HOK := Lib.hid hok
        obtain ⟨s, hse⟩ : ∃ s, s = natS zs := ⟨_, rfl⟩
        rw [← hse] at HDL ⊢
        clear hv hs hb hrc hok hzi hzm HRR HRS hp hh hz hhl hse
        refine (callsIn_wide (n := 5)).1 ?_
        refine callsIn_of_wp_marks Try.func27 rfl trivial ?_ rfl
        simp only [Try.ntmps27, List.size_toArray, List.length_cons, List.length_nil, Nat.reduceAdd, Nat.reduceSub, Array.replicate_succ, Array.replicate_zero, List.push_toArray, List.append_toArray, List.nil_append, List.cons_append]
        have hb0 := ((Below.refl w.heap.size w).alloc (Nat.le_refl _) (.cells #[.slice g h.length cg] 23 (0, 0))).alloc (by simp) (.cells #[.slice b zs.length cb] 35 (0, 0))
        have e1 := heap_new w (.cells #[.slice g h.length cg] 23 (0, 0))
        have s1 : (w.alloc (.cells #[.slice g h.length cg] 23 (0, 0))).heap.size = w.heap.size + 1 := by simp
        have e2 := heap_new (w.alloc (.cells #[.slice g h.length cg] 23 (0, 0))) (.cells #[.slice b zs.length cb] 35 (0, 0))
        have e1' := hp_alloc (o' := (.cells #[.slice b zs.length cb] 35 (0, 0))) e1
        rw [s1] at e2
        have s2 : ((w.alloc (.cells #[.slice g h.length cg] 23 (0, 0))).alloc (.cells #[.slice b zs.length cb] 35 (0, 0))).heap.size = w.heap.size + 2 := by simp
        have y0 := hp_cell e1' (j := 0) rfl
        have y1 := hp_cell e2 (j := 0) rfl
        gi_wp2_with fail
        refine ⟨trivial, ?_⟩
        gi_at_call 16
        refine (callsIn_wide.2 (HV.out _ (HP.out.below hb0 (Nat.le_refl _)) (HH.out.below hb0 (Nat.le_refl _)))).mono ?_
        rintro e w1 ⟨rfl, hB1⟩
        have HB1 := Lib.hid (hb0.trans (hB1.mono hb0.size))
        have HbH := Lib.hid (hp_below e1' hB1 (hp_lt e1'))
        have HbS := Lib.hid (hp_below e2 hB1 (hp_lt e2))
        have hs1 := hB1.size
        clear hb0 e1 e1' e2 s1 y0 y1 hB1
        simp only [World.size_alloc] at s2 hs1
        have y0 := hp_cell HbH.out (j := 0) rfl
        have y1 := hp_cell HbS.out (j := 0) rfl
        gi_wp2_with fail
        refine ⟨trivial, ?_⟩
        gi_at_call 53
        refine (callsIn_wide.2 (HS.out _ (HZ.out.below HB1.out (Nat.le_refl _)))).mono ?_
        rintro e w2 ⟨rfl, hB2⟩
        have HB2 := Lib.hid (HB1.out.trans (hB2.mono HB1.out.size))
        replace HbH := Lib.hid (hp_below HbH.out hB2 (hp_lt HbH.out))
        replace HbS := Lib.hid (hp_below HbS.out hB2 (hp_lt HbS.out))
        have hs2 := hB2.size
        clear hB2 y0 y1 HB1
        have y0 := hp_cell HbH.out (j := 0) rfl
        have y1 := hp_cell HbS.out (j := 0) rfl
        gi_wp2_with fail
        refine ⟨trivial, ?_⟩
        gi_at_call 54
        refine (callsIn_wide.2 (HT.out _ (HZ.out.below HB2.out (Nat.le_refl _)))).mono ?_
        rintro e w3 ⟨rfl, rfl⟩
        have hl0 : w.heap.size < w2.heap.size := by omega
        have z1 : ∀ o, (w2.alloc o).cell? ⟨w.heap.size, 0, none⟩ = some (.slice g h.length cg) := fun o => cell_alloc_keep y0
        have z2 : ∀ o o', ((w2.alloc o).alloc o').cell? ⟨w.heap.size, 0, none⟩ = some (.slice g h.length cg) := fun o o' => cell_alloc_keep (z1 o)
        have z3 : ∀ o o' o2, (((w2.alloc o).alloc o').alloc o2).cell? ⟨w.heap.size, 0, none⟩ = some (.slice g h.length cg) := fun o o' o2 => cell_alloc_keep (z2 o o')
        gi_wp2_with fail
        refine ⟨trivial, ?_⟩
        gi_at_call 55
        refine (callsIn_wide.2 (backwardH_any _ _ _ _)).mono ?_
        rintro e w4 ⟨rfl, hw4⟩
        have hI0 : RvI g b cg h.length cb zs.length w2.heap.size h s w h.length w4 := by
          rw [← hw4]
          have f1 := heap_new w2 (.cells #[.slice g h.length cg] 57)
          have b1 := (Below.refl w2.heap.size w2).alloc (Nat.le_refl _) (.cells #[.slice g h.length cg] 57)
          have q1 : (w2.alloc (.cells #[.slice g h.length cg] 57)).heap.size = w2.heap.size + 1 := by simp
          generalize w2.alloc (.cells #[.slice g h.length cg] 57) = v1 at *
          have f2 := heap_new v1 (.cells (bv (List.replicate h.length false)) 4)
          have b2 := (Below.refl v1.heap.size v1).alloc (Nat.le_refl _) (.cells (bv (List.replicate h.length false)) 4)
          have q2 : (v1.alloc (.cells (bv (List.replicate h.length false)) 4)).heap.size = w2.heap.size + 2 := by simp [q1]
          rw [q1] at f2
          generalize v1.alloc (.cells (bv (List.replicate h.length false)) 4) = v2 at *
          have f3 := heap_new v2 (.cells #[.slice (some ⟨w2.heap.size + 1, 0, none⟩) h.length h.length] 70)
          have b3 := (Below.refl v2.heap.size v2).alloc (Nat.le_refl _) (.cells #[.slice (some ⟨w2.heap.size + 1, 0, none⟩) h.length h.length] 70)
          have q3 : (v2.alloc (.cells #[.slice (some ⟨w2.heap.size + 1, 0, none⟩) h.length h.length] 70)).heap.size = w2.heap.size + 3 := by simp [q2]
          rw [q2] at f3
          generalize v2.alloc (.cells #[.slice (some ⟨w2.heap.size + 1, 0, none⟩) h.length h.length] 70) = v3 at *
          have f4 := heap_new v3 (.cells #[.slice g h.length cg] 23)
          have b4 := (Below.refl v3.heap.size v3).alloc (Nat.le_refl _) (.cells #[.slice g h.length cg] 23)
          rw [q3] at f4
          generalize v3.alloc (.cells #[.slice g h.length cg] 23) = v4 at *
          have b34 := b3.trans (b4.mono b3.size)
          have b24 := b2.trans (b34.mono b2.size)
          have b14 := b1.trans (b24.mono b1.size)
          have hw := HB2.out.trans (b14.mono HB2.out.size)
          refine ⟨hp_below HbH.out b14 (hp_lt HbH.out), hp_below HbS.out b14 (hp_lt HbS.out), ⟨g, cg, ?_, ?_, ?_, ?_⟩, ?_, hp_below f3 b4 (by omega), f4, hw⟩
          · rw [rstL_all]; exact hp_below f1 b24 (by omega)
          · rw [rstL_all]; exact hcg
          · rw [rstL_all]
            rcases HH.out with hn | ⟨q, off, e1, e2, e3⟩
            · exact .inl hn
            · refine .inr ⟨q, off, e1, Nat.lt_of_lt_of_le e2 hw.size, fun j x hj => ?_⟩
              obtain ⟨ax, cx, r1, r2⟩ := e3 j x hj
              exact ⟨ax, cx, (hw.cell (p := ⟨q, _, none⟩) e2).trans r1, r2⟩
          · rcases HH.out with hn | ⟨q', off, e1, e2, e3⟩
            · left; rw [rstL_all]; exact hn
            · right
              intro q o p e
              rw [e1] at e; have := blk_inj e; omega
          · rw [lbL_all]; exact hp_below f2 b34 (by omega)
        have hsz : w2.heap.size + 4 ≤ w4.heap.size := by rw [← hw4]; simp
        have hK2 : w.heap.size + 2 ≤ w2.heap.size := by omega
        simp only [World.size_alloc]
        have HI0 := Lib.hid hI0
        clear hw4 hI0 HbH HbS HB2 y0 y1 z1 z2 z3 hmk hl0 hs1 hs2 s2 HV HS HT
        generalize w2.heap.size = K at *
        have hxa : ∃ (pb off : Nat) (rs : List NH), (0 < h.length → g = some ⟨pb, off, none⟩ ∧ pb < w.heap.size) ∧ BackAtH w4 pb off h.length rs := by
          rcases HH.out with hn | ⟨pb, off, q1, q2, q3⟩
          · exact ⟨0, 0, [], fun h9 => by rw [hn] at h9; simp at h9, by rw [hn]; rfl, fun j x hx => by simp at hx⟩
          · obtain ⟨rs, r1, _⟩ := back_hist h8 q3
            refine ⟨pb, off, rs, fun _ => ⟨q1, q2⟩, r1.1, fun j x hx => ⟨(r1.2 j x hx).1, ?_⟩⟩
            exact (HI0.out.below.cell (p := ⟨pb, _, none⟩) q2).trans (r1.2 j x hx).2
        obtain ⟨pb, off, rs, hx1, hx2⟩ := hxa
        have HSEQ := Lib.hid (backH_all 4 (by omega) (K + 1 + 1 + 1) w.heap.size pb off h.length cg g rs w4 h8 hx1 (by omega) (by omega) (hp_cell HI0.out.bB (by rfl)) hx2)
        have HRS := Lib.hid (fun (j : Nat) (x : NH) hx => (hx2.2 j x hx).1)
        have HLR := Lib.hid hx2.1
        have hP0 : w.heap.size ≤ w4.heap.size := by omega
        clear hx1 hx2
        gi_wp2_with fail
        refine rangeFunc_all (G := GoesBackH rs) rfl (by omega) (gf := 73) (lb := #[.pointer (some ⟨K + 1 + 1 + 1, 0, none⟩)]) rfl trivial (enters_of Try.func73 (by kernel_rfl) rfl) HSEQ.out ?kt ?kb (Below.refl _ _) (fun _ => rfl)
          (fun pre W => RvI g b cg h.length cb zs.length K h s w (h.length - pre.length) W)
          (rvI_own _ _ _ _ _ _ _ _ _ _ (fun pre : List NH => h.length - pre.length) _ hP0)
          HI0.out
          (fun x bb _ => bb = { tmps := #[.slice a ps.length ca, .slice g h.length cg, .slice b zs.length cb, undef, .pointer (some ⟨w.heap.size, 0, none⟩), .pointer (some ⟨w.heap.size + 1, 0, none⟩), .slice none 0 0, .slice none 0 0, .int .i64 0, .int .i64 0, .pointer (some ⟨K, 0, none⟩), .pointer (some ⟨K + 1 + 1, 0, none⟩), .int .i64 (x.1.i : Int), .slice a ps.length ca, .slice g h.length cg, .int .i64 0, .int .i64 0, .bool false, undef, .slice b zs.length cb, .bool true, .bool false, .bool false, .slice b zs.length cb, .slice g h.length cg, .int .i64 h.length, .int .i64 ((h.length : Int) - 1), .bool true, .bool false, .bool false, .slice g h.length cg, .slice g h.length cg, .int .i64 h.length, .slice (some ⟨K + 1, 0, none⟩) h.length h.length, .slice g h.length cg, .func (.func 73) #[] #[.pointer (some ⟨K + 1 + 1 + 1, 0, none⟩)], .int .i64 (x.1.i : Int), .slice x.1.a x.1.n x.1.c, undef, undef, undef, undef, undef, undef, undef, undef, undef, undef, undef, undef, undef, undef, undef, undef, undef, undef, undef, undef, undef], defers := [] }) (fun x bb => ownFrom_pure _ _)
          ?assign ?body ?done
        case kt => exact fun h k => ⟨h.1.trans k.1, k.2.trans h.2⟩
        case kb =>
          intro W l o o' h1 h2 h3 h4
          refine ⟨belowK_b (w := w4) (by omega) W l o o' h1 h2 h3 h4, ?_⟩
          have hl := hp_lt h2
          exact (grownBy_putObj' W l o').block (K + 1 + 1 + 1) (by omega) (by intro e; cases e; omega)
        case assign =>
          intro l pre x W K' hI hK
          unfold encNH
          gi_wp2
          exact hK _ _ ((KeepsOthers.refl _).from _) ⟨Below.refl _ _, rfl⟩ hI rfl
        case body =>
          rintro l pre x bb W hl ⟨j, hj1, hj2⟩ hI rfl
          have hj : j < rs.length := (List.getElem?_eq_some_iff.1 hj2).1
          have hpj : pre.length = j := by rw [hj1, List.length_take]; omega
          have e1 := HRS.out j x hj2
          have hrl := HLR.out
          obtain ⟨⟨i, xa, xn, xc⟩, hx8, hxt⟩ := x
          simp only at e1 ⊢
          have hi : i < h.length := by omega
          have HNx := Lib.hid (show h.length - (pre.length + 1) = i by rw [hpj]; omega)
          rw [show h.length - pre.length = i + 1 by omega] at hI
          have HI := Lib.hid hI
          have hKl := hp_lt hI.bB
          have HPost : Hid (∀ W', KeepsOthers W W' → RvI g b cg h.length cb zs.length K h s w i W' → Below w.heap.size W W' →
              (KeepsFrom w4.heap.size W W' ∧ KpB w.heap.size (K + 1 + 1 + 1) W W' ∧ RvI g b cg h.length cb zs.length K h s w (h.length - (pre.length + 1)) W')) := by
            refine Lib.hid fun W' hk hi hb => ⟨hk.from _, ⟨hb, hi.bB.trans HI.out.bB.symm⟩, ?_⟩
            rw [HNx.out]
            exact hi
          clear hj hj1 hj2 hpj e1 hrl hI HNx
          obtain ⟨I, hI9⟩ : ∃ I, lefB h s i = I := ⟨_, rfl⟩
          have HLI := Lib.hid hI9
          have HDC := Lib.hid (fun W h1 h2 => HDP.out i W h1 h2 hi)
          rw [HDL.out i, hI9] at HDC
          have i0 : (0 : Int) ≤ (i : Int) := by omega
          have i1 : (i : Int) < (h.length : Int) := by omega
          have HBW0 := Lib.hid HI.out.below
          have HBD := Lib.hid (show Below W.heap.size W W.drew from ⟨rfl, rfl, rfl, Nat.le_refl _, fun _ _ => rfl⟩)
          have HS0 := Lib.hid (show (W.drew.heap[K + 1 + 1]? = some (.cells #[.slice (some ⟨K + 1, 0, none⟩) h.length h.length] 70 (0, 0)) ∧ W.drew.heap[w.heap.size]? = some (.cells #[.slice g h.length cg] 23 (0, 0)) ∧ W.drew.heap[w.heap.size + 1]? = some (.cells #[.slice b zs.length cb] 35 (0, 0))) from ⟨hp_drew HI.out.bX, hp_drew HI.out.bH, hp_drew HI.out.bS⟩)
          clear hI9 HDP HDL
          cases I
          · gi_wp2_with fail
            rename_i Qb Kb hKb
            refine region_round (S := (fun W2 => W2.heap[K + 1 + 1]? = some (.cells #[.slice (some ⟨K + 1, 0, none⟩) h.length h.length] 70 (0, 0)) ∧ W2.heap[w.heap.size]? = some (.cells #[.slice g h.length cg] 23 (0, 0)) ∧ W2.heap[w.heap.size + 1]? = some (.cells #[.slice b zs.length cb] 35 (0, 0)))) (by kernel_rfl) (by kernel_rfl) (by rintro ⟨_, _, h, _⟩; cases h) ?_ (fun hHeld => ?_)
            · exact HS0.out
            generalize W.drew = Wd at *
            refine wpAnyH_take (i := 0) (oi := ?oiq1) (v := (.slice (some ⟨K + 1, 0, none⟩) h.length h.length)) ?hiq1 (by kernel_rfl) (by kernel_rfl) (by kernel_rfl) ?hqq1 ?hyq1 hHeld ?restq1
            case hiq1 => exact rfl
            case hqq1 => exact fun _ _ _ h => h
            case hyq1 =>
              refine Or.inl ⟨by rfl, ?_⟩
              intro w hSw
              have m0 := hp_cell hSw.1 (j := 0) rfl
              go_simp
              (try with_reducible rfl)
            try simp only [Act.put, List.getElem_toArray, List.getElem_cons_succ, List.getElem_cons_zero, List.setIfInBounds_toArray, List.set_cons_zero, List.set_cons_succ]
            refine wpAnyH_take (i := 1) (oi := ?oiq2) (v := (.int .i64 i)) ?hiq2 (by kernel_rfl) (by kernel_rfl) (by kernel_rfl) ?hqq2 ?hyq2 hHeld ?restq2
            case hiq2 => exact rfl
            case hqq2 => exact fun _ _ _ h => h
            case hyq2 =>
              refine Or.inl ⟨by rfl, ?_⟩
              intro w hSw
              go_simp
              (try with_reducible rfl)
            try simp only [Act.put, List.getElem_toArray, List.getElem_cons_succ, List.getElem_cons_zero, List.setIfInBounds_toArray, List.set_cons_zero, List.set_cons_succ]
            refine wpAnyH_take (i := 2) (oi := ?oiq3) (v := (.slice g h.length cg)) ?hiq3 (by kernel_rfl) (by kernel_rfl) (by kernel_rfl) ?hqq3 ?hyq3 hHeld ?restq3
            case hiq3 => exact rfl
            case hqq3 => exact fun _ _ _ h => h
            case hyq3 =>
              refine Or.inl ⟨by rfl, ?_⟩
              intro w hSw
              have m0 := hp_cell hSw.2.1 (j := 0) rfl
              go_simp
              (try with_reducible rfl)
            try simp only [Act.put, List.getElem_toArray, List.getElem_cons_succ, List.getElem_cons_zero, List.setIfInBounds_toArray, List.set_cons_zero, List.set_cons_succ]
            refine wpAnyH_take (i := 3) (oi := ?oiq4) (v := (.int .i64 i)) ?hiq4 (by kernel_rfl) (by kernel_rfl) (by kernel_rfl) ?hqq4 ?hyq4 hHeld ?restq4
            case hiq4 => exact rfl
            case hqq4 => exact fun _ _ _ h => h
            case hyq4 =>
              refine Or.inl ⟨by rfl, ?_⟩
              intro w hSw
              go_simp
              (try with_reducible rfl)
            try simp only [Act.put, List.getElem_toArray, List.getElem_cons_succ, List.getElem_cons_zero, List.setIfInBounds_toArray, List.set_cons_zero, List.set_cons_succ]
            refine wpAnyH_take (i := 4) (oi := ?oiq5) (v := (.slice b zs.length cb)) ?hiq5 (by kernel_rfl) (by kernel_rfl) (by kernel_rfl) ?hqq5 ?hyq5 hHeld ?restq5
            case hiq5 => exact rfl
            case hqq5 => exact fun _ _ _ h => h
            case hyq5 =>
              refine Or.inl ⟨by rfl, ?_⟩
              intro w hSw
              have m0 := hp_cell hSw.2.2 (j := 0) rfl
              go_simp
              (try with_reducible rfl)
            try simp only [Act.put, List.getElem_toArray, List.getElem_cons_succ, List.getElem_cons_zero, List.setIfInBounds_toArray, List.set_cons_zero, List.set_cons_succ]
            refine wpAnyH_ready (rs := [5]) (by kernel_rfl) (by simp) ?_
            refine AllReadyH.cons (o := ?or9_5) ?hr9_5 ?kr9_5 AllReadyH.nil
            case hr9_5 => exact rfl
            case kr9_5 =>
              intro Kz hKz
              go_simp
              refine (HDC.out _ (HH.out.below (HBW0.out.trans (HBD.out.mono HBW0.out.size)) (Nat.le_refl _)) (HZ.out.below (HBW0.out.trans (HBD.out.mono HBW0.out.size)) (Nat.le_refl _))).mono ?_
              rintro e w5 ⟨rfl, hB5⟩
              have HB5 := Lib.hid (HBD.out.trans (hB5.mono HBD.out.size))
              have HI5 := Lib.hid (HI.out.lower HB5.out)
              clear hB5
              refine hKz.out _ _ ⟨HI5.out.bX, HI5.out.bH, HI5.out.bS⟩ (fun hHeld => ?_)
              clear hKz Kz
              try simp only [Act.put, List.getElem_toArray, List.getElem_cons_succ, List.getElem_cons_zero, List.setIfInBounds_toArray, List.set_cons_zero, List.set_cons_succ]
              refine wpAnyH_take (i := 6) (oi := ?oiq6) (v := (.bool false)) ?hiq6 (by kernel_rfl) (by kernel_rfl) (by kernel_rfl) ?hqq6 ?hyq6 hHeld ?restq6
              case hiq6 => exact rfl
              case hqq6 => exact fun _ _ _ h => h
              case hyq6 =>
                refine Or.inl ⟨by rfl, ?_⟩
                intro w hSw
                go_simp
                (try with_reducible rfl)
              try simp only [Act.put, List.getElem_toArray, List.getElem_cons_succ, List.getElem_cons_zero, List.setIfInBounds_toArray, List.set_cons_zero, List.set_cons_succ]
              refine wpAnyH_take (i := 7) (oi := ?oiq7) (v := (.pointer (some ⟨K + 1, i, none⟩))) ?hiq7 (by kernel_rfl) (by kernel_rfl) (by kernel_rfl) ?hqq7 ?hyq7 hHeld ?restq7
              case hiq7 => exact rfl
              case hqq7 => exact fun _ _ _ h => h
              case hyq7 =>
                refine Or.inl ⟨by rfl, ?_⟩
                intro w hSw
                go_simp
                (try with_reducible rfl)
              try simp only [Act.put, List.getElem_toArray, List.getElem_cons_succ, List.getElem_cons_zero, List.setIfInBounds_toArray, List.set_cons_zero, List.set_cons_succ]
              refine wpAnyH_ready (rs := [8]) (by kernel_rfl) (by simp) ?_
              refine AllReadyH.cons (o := ?or8_8) ?hr8_8 ?kr8_8 AllReadyH.nil
              case hr8_8 => exact rfl
              case kr8_8 =>
                intro Kz hKz
                have d0 := hp_cell HI5.out.bL (bv_get (lbL h s (i + 1)) i (by rw [lbL_len]; exact hi))
                have d1 := hp_free HI5.out.bL i
                go_simp
                refine hKz.out _ _ ⟨hp_set HI5.out.bX (by simp) _, hp_set HI5.out.bH (by show _ ≠ K + 1; omega) _, hp_set HI5.out.bS (by show _ ≠ K + 1; omega) _⟩ (fun hHeld => ?_)
                clear hKz Kz
                try simp only [Act.put, List.getElem_toArray, List.getElem_cons_succ, List.getElem_cons_zero, List.setIfInBounds_toArray, List.set_cons_zero, List.set_cons_succ]
                refine wpAnyH_done (by kernel_rfl) ?_ _
                clear hHeld
                have hoF := Off.setCell (K + 1) w5 i (.bool false)
                have HOF := Lib.hid hoF
                obtain ⟨a3, c3, k1, k2, k3, k4⟩ := HI5.out.bR
                have HR6 := Lib.hid (k3.off hoF (k4.imp id fun k4 q o p e => by have := k4 q o p e; omega))
                have HK4 := Lib.hid k4
                have m0 := (cell_heap (hoF.block (K + 1 + 1) (hp_lt HI5.out.bX) (by omega)) 0).trans (hp_cell HI5.out.bX (j := 0) rfl)
                have m1 := hp_cell (hp_put HI5.out.bL i (.bool false)) (j := i) (v := .bool false) (by rw [bv_set]; exact (bv_get _ i (by rw [List.length_set, lbL_len]; exact hi)).trans (by rw [List.getD_eq_getElem?_getD, List.getElem?_set_self (by rw [lbL_len]; exact hi)]; rfl))
                have m2 := (cell_heap (hoF.block K (hp_lt k1) (by omega)) 0).trans (hp_cell k1 (j := 0) rfl)
                have HK6 := Lib.hid ((hoF.block K (hp_lt k1) (by omega)).trans k1)
                have hrl := rstL_len (s := s) (show i + 1 ≤ h.length by omega)
                have HWO := Lib.hid (hWithout_any (EditsAt w) a3 c3 i (rstL h s (i + 1)) (w5.setCell ⟨K + 1, i, none⟩ (.bool false)) HR6.out k2 (by omega) (by omega))
                have HER := Lib.hid (show (rstL h s (i + 1)).eraseIdx i = rstL h s i from (rstL_no hi HLI.out).symm)
                have HLE := Lib.hid (show (rstL h s (i + 1)).length - 1 = (rstL h s i).length by rw [← HER.out, List.length_eraseIdx_of_lt (by omega)])
                rw [HER.out, HLE.out] at HWO
                have HSZ := Lib.hid (show w5.heap.size ≤ (w5.setCell ⟨K + 1, i, none⟩ (.bool false)).heap.size from hoF.size)
                have hs5 := HB5.out.size
                clear k1 k2 k3 k4 hoF
                obtain ⟨w6, hw6⟩ : ∃ w6, w6 = w5.setCell ⟨K + 1, i, none⟩ (.bool false) := ⟨_, rfl⟩
                rw [← hw6] at m0 m1 m2 HK6 HWO HSZ HOF HR6 ⊢
                have HW6 := Lib.hid hw6
                clear hw6
                refine hKb _ _ ?_
                gi_wp2_with fail
                refine ⟨trivial, ?_⟩
                gi_at_call 57
                refine (CallsIn.inRound l (callsIn_wide.2 HWO.out)).mono ?_
                rintro e w7 ⟨a', c', rfl, hc', hR7, hq7, hB7⟩
                have HB7 := Lib.hid hB7
                have hl6 := HSZ.out
                have y5 := hp_free (hp_below HK6.out hB7 (hp_lt HK6.out)) 0
                have y6 := hp_cell (hp_below HK6.out hB7 (hp_lt HK6.out)) (j := 0) rfl
                have HQ7 := Lib.hid (show rstL h s i = [] ∨ ∀ q o p, a' = some ⟨q, o, p⟩ → q < w.heap.size ∨ K + 4 ≤ q from by
                  rcases HK4.out with k4 | k4
                  · left; rw [← HER.out, k4]; rfl
                  · right; intro q o p e
                    rcases hq7 q o p e with ⟨o2, p2, e2⟩ | h9
                    · exact k4 q o2 p2 e2
                    · right; omega)
                have HI8 := Lib.hid (HI5.out.putN (by omega) hi HLI.out (by rw [← HW6.out]; exact hB7) hc' hR7 HQ7.out)
                have HKO := Lib.hid ((keeps_below HB5.out).trans ((show KeepsOthers w5 w6 from by rw [HW6.out]; exact KeepsOthers.setCell _ _ _).trans ((keeps_below hB7).trans (KeepsOthers.setCell w7 ⟨K, 0, none⟩ (.slice a' (rstL h s i).length c')))))
                have HBF := Lib.hid (show Below w.heap.size W (w7.setCell ⟨K, 0, none⟩ (.slice a' (rstL h s i).length c')) from (HB5.out.mono HBW0.out.size).trans ((HOF.out.below (by omega) HI5.out.below.size).trans ((hB7.mono (by omega)).setCell (p := ⟨K, 0, none⟩) (by show w.heap.size ≤ K; omega) _)))
                clear hB7 hR7 hq7 m0 m1 m2
                gi_wp2_with fail
                exact HPost.out _ HKO.out HI8.out HBF.out
          · gi_wp2_with fail
            rename_i Qb Kb hKb
            refine region_round (S := (fun W2 => W2.heap[K + 1 + 1]? = some (.cells #[.slice (some ⟨K + 1, 0, none⟩) h.length h.length] 70 (0, 0)) ∧ W2.heap[w.heap.size]? = some (.cells #[.slice g h.length cg] 23 (0, 0)) ∧ W2.heap[w.heap.size + 1]? = some (.cells #[.slice b zs.length cb] 35 (0, 0)))) (by kernel_rfl) (by kernel_rfl) (by rintro ⟨_, _, h, _⟩; cases h) ?_ (fun hHeld => ?_)
            · exact HS0.out
            generalize W.drew = Wd at *
            refine wpAnyH_take (i := 0) (oi := ?oiq10) (v := (.slice (some ⟨K + 1, 0, none⟩) h.length h.length)) ?hiq10 (by kernel_rfl) (by kernel_rfl) (by kernel_rfl) ?hqq10 ?hyq10 hHeld ?restq10
            case hiq10 => exact rfl
            case hqq10 => exact fun _ _ _ h => h
            case hyq10 =>
              refine Or.inl ⟨by rfl, ?_⟩
              intro w hSw
              have m0 := hp_cell hSw.1 (j := 0) rfl
              go_simp
              (try with_reducible rfl)
            try simp only [Act.put, List.getElem_toArray, List.getElem_cons_succ, List.getElem_cons_zero, List.setIfInBounds_toArray, List.set_cons_zero, List.set_cons_succ]
            refine wpAnyH_take (i := 1) (oi := ?oiq11) (v := (.int .i64 i)) ?hiq11 (by kernel_rfl) (by kernel_rfl) (by kernel_rfl) ?hqq11 ?hyq11 hHeld ?restq11
            case hiq11 => exact rfl
            case hqq11 => exact fun _ _ _ h => h
            case hyq11 =>
              refine Or.inl ⟨by rfl, ?_⟩
              intro w hSw
              go_simp
              (try with_reducible rfl)
            try simp only [Act.put, List.getElem_toArray, List.getElem_cons_succ, List.getElem_cons_zero, List.setIfInBounds_toArray, List.set_cons_zero, List.set_cons_succ]
            refine wpAnyH_take (i := 2) (oi := ?oiq12) (v := (.slice g h.length cg)) ?hiq12 (by kernel_rfl) (by kernel_rfl) (by kernel_rfl) ?hqq12 ?hyq12 hHeld ?restq12
            case hiq12 => exact rfl
            case hqq12 => exact fun _ _ _ h => h
            case hyq12 =>
              refine Or.inl ⟨by rfl, ?_⟩
              intro w hSw
              have m0 := hp_cell hSw.2.1 (j := 0) rfl
              go_simp
              (try with_reducible rfl)
            try simp only [Act.put, List.getElem_toArray, List.getElem_cons_succ, List.getElem_cons_zero, List.setIfInBounds_toArray, List.set_cons_zero, List.set_cons_succ]
            refine wpAnyH_take (i := 3) (oi := ?oiq13) (v := (.int .i64 i)) ?hiq13 (by kernel_rfl) (by kernel_rfl) (by kernel_rfl) ?hqq13 ?hyq13 hHeld ?restq13
            case hiq13 => exact rfl
            case hqq13 => exact fun _ _ _ h => h
            case hyq13 =>
              refine Or.inl ⟨by rfl, ?_⟩
              intro w hSw
              go_simp
              (try with_reducible rfl)
            try simp only [Act.put, List.getElem_toArray, List.getElem_cons_succ, List.getElem_cons_zero, List.setIfInBounds_toArray, List.set_cons_zero, List.set_cons_succ]
            refine wpAnyH_take (i := 4) (oi := ?oiq14) (v := (.slice b zs.length cb)) ?hiq14 (by kernel_rfl) (by kernel_rfl) (by kernel_rfl) ?hqq14 ?hyq14 hHeld ?restq14
            case hiq14 => exact rfl
            case hqq14 => exact fun _ _ _ h => h
            case hyq14 =>
              refine Or.inl ⟨by rfl, ?_⟩
              intro w hSw
              have m0 := hp_cell hSw.2.2 (j := 0) rfl
              go_simp
              (try with_reducible rfl)
            try simp only [Act.put, List.getElem_toArray, List.getElem_cons_succ, List.getElem_cons_zero, List.setIfInBounds_toArray, List.set_cons_zero, List.set_cons_succ]
            refine wpAnyH_ready (rs := [5]) (by kernel_rfl) (by simp) ?_
            refine AllReadyH.cons (o := ?or18_5) ?hr18_5 ?kr18_5 AllReadyH.nil
            case hr18_5 => exact rfl
            case kr18_5 =>
              intro Kz hKz
              go_simp
              refine (HDC.out _ (HH.out.below (HBW0.out.trans (HBD.out.mono HBW0.out.size)) (Nat.le_refl _)) (HZ.out.below (HBW0.out.trans (HBD.out.mono HBW0.out.size)) (Nat.le_refl _))).mono ?_
              rintro e w5 ⟨rfl, hB5⟩
              have HB5 := Lib.hid (HBD.out.trans (hB5.mono HBD.out.size))
              have HI5 := Lib.hid (HI.out.lower HB5.out)
              clear hB5
              refine hKz.out _ _ ⟨HI5.out.bX, HI5.out.bH, HI5.out.bS⟩ (fun hHeld => ?_)
              clear hKz Kz
              try simp only [Act.put, List.getElem_toArray, List.getElem_cons_succ, List.getElem_cons_zero, List.setIfInBounds_toArray, List.set_cons_zero, List.set_cons_succ]
              refine wpAnyH_take (i := 6) (oi := ?oiq15) (v := (.bool true)) ?hiq15 (by kernel_rfl) (by kernel_rfl) (by kernel_rfl) ?hqq15 ?hyq15 hHeld ?restq15
              case hiq15 => exact rfl
              case hqq15 => exact fun _ _ _ h => h
              case hyq15 =>
                refine Or.inl ⟨by rfl, ?_⟩
                intro w hSw
                go_simp
                (try with_reducible rfl)
              try simp only [Act.put, List.getElem_toArray, List.getElem_cons_succ, List.getElem_cons_zero, List.setIfInBounds_toArray, List.set_cons_zero, List.set_cons_succ]
              refine wpAnyH_take (i := 7) (oi := ?oiq16) (v := (.pointer (some ⟨K + 1, i, none⟩))) ?hiq16 (by kernel_rfl) (by kernel_rfl) (by kernel_rfl) ?hqq16 ?hyq16 hHeld ?restq16
              case hiq16 => exact rfl
              case hqq16 => exact fun _ _ _ h => h
              case hyq16 =>
                refine Or.inl ⟨by rfl, ?_⟩
                intro w hSw
                go_simp
                (try with_reducible rfl)
              try simp only [Act.put, List.getElem_toArray, List.getElem_cons_succ, List.getElem_cons_zero, List.setIfInBounds_toArray, List.set_cons_zero, List.set_cons_succ]
              refine wpAnyH_ready (rs := [8]) (by kernel_rfl) (by simp) ?_
              refine AllReadyH.cons (o := ?or17_8) ?hr17_8 ?kr17_8 AllReadyH.nil
              case hr17_8 => exact rfl
              case kr17_8 =>
                intro Kz hKz
                have d0 := hp_cell HI5.out.bL (bv_get (lbL h s (i + 1)) i (by rw [lbL_len]; exact hi))
                have d1 := hp_free HI5.out.bL i
                go_simp
                refine hKz.out _ _ ⟨hp_set HI5.out.bX (by simp) _, hp_set HI5.out.bH (by show _ ≠ K + 1; omega) _, hp_set HI5.out.bS (by show _ ≠ K + 1; omega) _⟩ (fun hHeld => ?_)
                clear hKz Kz
                try simp only [Act.put, List.getElem_toArray, List.getElem_cons_succ, List.getElem_cons_zero, List.setIfInBounds_toArray, List.set_cons_zero, List.set_cons_succ]
                refine wpAnyH_done (by kernel_rfl) ?_ _
                clear hHeld
                have HI6 := Lib.hid ((HI5.out.putL (by omega) hi).2 HLI.out)
                have HKO := Lib.hid ((keeps_below HB5.out).trans (KeepsOthers.setCell w5 ⟨K + 1, i, none⟩ (.bool true)))
                have HBF := Lib.hid ((HB5.out.mono HBW0.out.size).trans (show Below w.heap.size w5 (w5.setCell ⟨K + 1, i, none⟩ (.bool true)) from (Off.setCell (K + 1) w5 i (.bool true)).below (by omega) HI5.out.below.size))
                generalize w5.setCell ⟨K + 1, i, none⟩ (.bool true) = w6 at *
                have m0 := hp_cell HI6.out.bX (j := 0) rfl
                have m1 := hp_cell HI6.out.bL (bv_get (lbL h s i) i (by rw [lbL_len]; exact hi))
                rw [lbL_get hi, HLI.out] at m1
                simp only [Nat.le_refl, decide_true, Bool.and_self] at m1
                refine hKb _ _ ?_
                gi_wp2_with fail
                exact HPost.out _ HKO.out HI6.out HBF.out
        case done =>
          intro D W hD hI hK
          rw [HLR.out, Nat.sub_self] at hI
          obtain ⟨a3, c3, k1, k2, k3, k4⟩ := hI.bR
          have HK1 := Lib.hid k1
          have HI := Lib.hid hI
          have hrl := (rstL_len (s := s) (Nat.zero_le h.length)).2
          have HOR := Lib.hid (show OkZ ps (rstL h s 0) from ⟨HOK.out.1, fun x hx => HOK.out.2 x (rstL_mem (Nat.zero_le _) x hx)⟩)
          have HPL := Lib.hid (fun W h1 h2 => hPlay_any a3 a c3 ca (rstL h s 0) ps W h1 h2 HOR.out (by omega))
          have HPC := Lib.hid (fun W hi hlt => places_any (K + 1) 0 h.length (lbL h s 0) W hi hlt (by rw [lbL_len]; omega))
          have HK3 := Lib.hid k3
          have HKD := Lib.hid hK
          have HBW0 := Lib.hid hI.below
          have HBD := Lib.hid (show Below W.heap.size W W.drew from ⟨rfl, rfl, rfl, Nat.le_refl _, fun _ _ => rfl⟩)
          have HS0 := Lib.hid (show (W.drew.heap[K]? = some (.cells #[.slice a3 (rstL h s 0).length c3] 57 (0, 0)) ∧ W.drew.heap[K + 1 + 1]? = some (.cells #[.slice (some ⟨K + 1, 0, none⟩) h.length h.length] 70 (0, 0))) from ⟨hp_drew k1, hp_drew hI.bX⟩)
          rw [lbL_len] at HPC
          clear k1 k2 k3 k4 hI hK HDP HDL HSEQ
          gi_wp2_with fail
          rename_i Kb hKb
          refine region_norm (S := (fun W2 => W2.heap[K]? = some (.cells #[.slice a3 (rstL h s 0).length c3] 57 (0, 0)) ∧ W2.heap[K + 1 + 1]? = some (.cells #[.slice (some ⟨K + 1, 0, none⟩) h.length h.length] 70 (0, 0)))) (by kernel_rfl) (by kernel_rfl) ?_ (fun hHeld => ?_)
          · exact HS0.out
          generalize W.drew = Wd at *
          refine wpAnyH_take (i := 0) (oi := ?oiq19) (v := (.slice a3 (rstL h s 0).length c3)) ?hiq19 (by kernel_rfl) (by kernel_rfl) (by kernel_rfl) ?hqq19 ?hyq19 hHeld ?restq19
          case hiq19 => exact rfl
          case hqq19 => exact fun _ _ _ h => h
          case hyq19 =>
            refine Or.inl ⟨by rfl, ?_⟩
            intro w hSw
            have m0 := hp_cell hSw.1 (j := 0) rfl
            go_simp
            (try with_reducible rfl)
          try simp only [Act.put, List.getElem_toArray, List.getElem_cons_succ, List.getElem_cons_zero, List.setIfInBounds_toArray, List.set_cons_zero, List.set_cons_succ]
          refine wpAnyH_take (i := 1) (oi := ?oiq20) (v := (.slice a ps.length ca)) ?hiq20 (by kernel_rfl) (by kernel_rfl) (by kernel_rfl) ?hqq20 ?hyq20 hHeld ?restq20
          case hiq20 => exact rfl
          case hqq20 => exact fun _ _ _ h => h
          case hyq20 =>
            refine Or.inl ⟨by rfl, ?_⟩
            intro w hSw
            go_simp
            (try with_reducible rfl)
          try simp only [Act.put, List.getElem_toArray, List.getElem_cons_succ, List.getElem_cons_zero, List.setIfInBounds_toArray, List.set_cons_zero, List.set_cons_succ]
          refine wpAnyH_take (i := 3) (oi := ?oiq21) (v := (.slice (some ⟨K + 1, 0, none⟩) h.length h.length)) ?hiq21 (by kernel_rfl) (by kernel_rfl) (by kernel_rfl) ?hqq21 ?hyq21 hHeld ?restq21
          case hiq21 => exact rfl
          case hqq21 => exact fun _ _ _ h => h
          case hyq21 =>
            refine Or.inl ⟨by rfl, ?_⟩
            intro w hSw
            have m0 := hp_cell hSw.2 (j := 0) rfl
            go_simp
            (try with_reducible rfl)
          try simp only [Act.put, List.getElem_toArray, List.getElem_cons_succ, List.getElem_cons_zero, List.setIfInBounds_toArray, List.set_cons_zero, List.set_cons_succ]
          refine wpAnyH_ready (rs := [2]) (by kernel_rfl) (by simp) ?_
          refine AllReadyH.cons (o := ?or26_2) ?hr26_2 ?kr26_2 AllReadyH.nil
          case hr26_2 => exact rfl
          case kr26_2 =>
            intro Kz hKz
            go_simp
            have hWd := HBW0.out.trans (HBD.out.mono HBW0.out.size)
            refine (HPL.out _ (rowsG_at (HK3.out.below HBD.out (Nat.le_refl _)) hWd) (HP.out.below hWd (Nat.le_refl _))).mono ?_
            rintro e w5 ⟨a5, c5, rfl, ho5, hB5⟩
            have HB5 := Lib.hid (HBD.out.trans (hB5.mono HBD.out.size))
            have HI5 := Lib.hid (HI.out.lower HB5.out)
            have HL5 := Lib.hid (lines_of_own ho5).1
            clear hB5 ho5 hWd
            refine hKz.out _ _ ⟨hp_below HK1.out HB5.out (hp_lt HK1.out), HI5.out.bX⟩ (fun hHeld => ?_)
            clear hKz Kz
            try simp only [Act.put, List.getElem_toArray, List.getElem_cons_succ, List.getElem_cons_zero, List.setIfInBounds_toArray, List.set_cons_zero, List.set_cons_succ]
            refine wpAnyH_ready (rs := [4]) (by kernel_rfl) (by simp) ?_
            refine AllReadyH.cons (o := ?or25_4) ?hr25_4 ?kr25_4 AllReadyH.nil
            case hr25_4 => exact rfl
            case kr25_4 =>
              intro Kz hKz
              go_simp
              refine (HPC.out _ (bools8_at HI5.out.bL) (hp_lt HI5.out.bL)).mono ?_
              rintro e w6 ⟨a6, c6, rfl, ho6, hB6⟩
              have HB6 := Lib.hid (HB5.out.trans (hB6.mono HB5.out.size))
              have HL6 := Lib.hid (HL5.out.below hB6 (Nat.le_refl _))
              have HZ6 := Lib.hid (ints_of_own ho6).1
              clear hB6 ho6
              refine hKz.out _ _ ⟨hp_below HK1.out HB6.out (hp_lt HK1.out), (HI.out.lower HB6.out).bX⟩ (fun hHeld => ?_)
              clear hKz Kz
              try simp only [Act.put, List.getElem_toArray, List.getElem_cons_succ, List.getElem_cons_zero, List.setIfInBounds_toArray, List.set_cons_zero, List.set_cons_succ]
              refine wpAnyH_take (i := 5) (oi := ?oiq22) (v := (.slice a5 (plyF ps (rstL h s 0)).length c5)) ?hiq22 (by kernel_rfl) (by kernel_rfl) (by kernel_rfl) ?hqq22 ?hyq22 hHeld ?restq22
              case hiq22 => exact rfl
              case hqq22 => exact fun _ _ _ h => h
              case hyq22 =>
                refine Or.inl ⟨by rfl, ?_⟩
                intro w hSw
                go_simp
                (try with_reducible rfl)
              try simp only [Act.put, List.getElem_toArray, List.getElem_cons_succ, List.getElem_cons_zero, List.setIfInBounds_toArray, List.set_cons_zero, List.set_cons_succ]
              refine wpAnyH_take (i := 6) (oi := ?oiq23) (v := (.slice a6 (plc (lbL h s 0)).length c6)) ?hiq23 (by kernel_rfl) (by kernel_rfl) (by kernel_rfl) ?hqq23 ?hyq23 hHeld ?restq23
              case hiq23 => exact rfl
              case hqq23 => exact fun _ _ _ h => h
              case hyq23 =>
                refine Or.inl ⟨by rfl, ?_⟩
                intro w hSw
                go_simp
                (try with_reducible rfl)
              try simp only [Act.put, List.getElem_toArray, List.getElem_cons_succ, List.getElem_cons_zero, List.setIfInBounds_toArray, List.set_cons_zero, List.set_cons_succ]
              refine wpAnyH_take (i := 7) (oi := ?oiq24) (v := (.int .i64 0)) ?hiq24 (by kernel_rfl) (by kernel_rfl) (by kernel_rfl) ?hqq24 ?hyq24 hHeld ?restq24
              case hiq24 => exact rfl
              case hqq24 => exact fun _ _ _ h => h
              case hyq24 =>
                refine Or.inl ⟨by rfl, ?_⟩
                intro w hSw
                go_simp
                (try with_reducible rfl)
              try simp only [Act.put, List.getElem_toArray, List.getElem_cons_succ, List.getElem_cons_zero, List.setIfInBounds_toArray, List.set_cons_zero, List.set_cons_succ]
              refine wpAnyH_done (by kernel_rfl) ?_ _
              clear hHeld
              refine hKb _ _ ?_
              gi_wp2_with fail
              have hKD6 := (HB6.out.block D (hp_lt HKD.out)).trans HKD.out
              refine ⟨by simp, .inl ⟨_, _, rfl, run_takeDeferred hKD6, ?_⟩⟩
              have hbl := belowK_b (w := w6) (Nat.le_refl _)
              exact ⟨_, results_tmp3 rfl _ _ _, a5, c5, a6, c6, rfl, lines_putObj HL6.out hKD6 rfl, ints_putObj HZ6.out hKD6 rfl, (HBW0.out.trans (HB6.out.mono HBW0.out.size)).trans (belowK_b (w := w) (Nat.le_refl _) w6 D _ _ (by omega) hKD6 rfl rfl)⟩
  · have hrc : rvC ps h zs = vst ps h := by unfold rvC; rw [if_neg hv]
    have hv9 : rvC ps h zs ≠ 0 := by rw [hrc]; exact hv
    have HRR := Lib.hid (show rvR ps h zs = [] by unfold rvR; rw [if_neg hv9])
    have HRS := Lib.hid (show rvS ps h zs = [] by unfold rvS; rw [if_neg hv9])
    rw [HRR.out, HRS.out, hrc]
    have hz1 : (vst ps h != 0) = true := by simpa using hv
    generalize vst ps h = C at *
    clear hrc hv9 HRR HRS hv hp hh hz
    have hb0 := ((Below.refl w.heap.size w).alloc (Nat.le_refl _) (.cells #[.slice g h.length cg] 23 (0, 0))).alloc (by simp) (.cells #[.slice b zs.length cb] 35 (0, 0))
    have e1 := hp_alloc (o' := (.cells #[.slice b zs.length cb] 35 (0, 0))) (heap_new w (.cells #[.slice g h.length cg] 23 (0, 0)))
    have e2 := heap_new (w.alloc (.cells #[.slice g h.length cg] 23 (0, 0))) (.cells #[.slice b zs.length cb] 35 (0, 0))
    have s1 : (w.alloc (.cells #[.slice g h.length cg] 23 (0, 0))).heap.size = w.heap.size + 1 := by simp
    rw [s1] at e2
    obtain ⟨w0, hw0⟩ : ∃ w0, w0 = (w.alloc (.cells #[.slice g h.length cg] 23 (0, 0))).alloc (.cells #[.slice b zs.length cb] 35 (0, 0)) := ⟨_, rfl⟩
    rw [← hw0] at hb0 e1 e2
    have HW0 := Lib.hid hw0
    have y0 := hp_cell e1 (j := 0) rfl
    have y1 := hp_cell e2 (j := 0) rfl
    have HB0 := Lib.hid hb0
    have HE1 := Lib.hid e1
    have HE2 := Lib.hid e2
    clear hb0 e1 e2 hw0 s1
    go_enter Try.func27, Try.ntmps27
    go_upto_region 1 with fail
    rw [← HW0.out]
    go_wp2_with fail
    refine (HV.out _ (HP.out.below HB0.out (Nat.le_refl _)) (HH.out.below HB0.out (Nat.le_refl _))).mono ?_
    rintro e w1 ⟨rfl, hB1⟩
    have HB1 := Lib.hid (HB0.out.trans (hB1.mono HB0.out.size))
    have y2 := hp_cell (hp_below HE2.out hB1 (hp_lt HE2.out)) (j := 0) rfl
    have y3 := hp_cell (hp_below HE1.out hB1 (hp_lt HE1.out)) (j := 0) rfl
    have HE1 := Lib.hid (hp_below HE1.out hB1 (hp_lt HE1.out))
    have HE2 := Lib.hid (hp_below HE2.out hB1 (hp_lt HE2.out))
    clear hB1 y0 y1
    go_wp2_with fail
    go_ret3
    exact ⟨none, 0, none, 0, rfl, .inl rfl, .inl rfl, HB1.out⟩

end Go.Proofs.Ytikblaebfpdngaa
