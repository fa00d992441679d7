/- Several texts in one. -/
import Derived.Test.YtikblaebfpdngaaLng7
import Derived.Test.YtikblaebfpdngaaHs7
import Derived.Test.YtikblaebfpdngaaHtL
import Derived.Test.YtikblaebfpdngaaOpenH
import Derived.Test.YtikblaebfpdngaaHdE
import Derived.Test.YtikblaebfpdngaaSm4
/- StoryLeaves: the walk. -/
set_option linter.unusedVariables false
set_option linter.unusedSimpArgs false
namespace Go.Proofs.Ytikblaebfpdngaa
open Go.RowKit Tinker

theorem vst_few {ps : List L} {h k : List (List E)} (e : vst ps h = 0) (hk : ∀ x ∈ k, x ∈ h) (hl : k.length ≤ 8) : vst ps k = 0 := by
  obtain ⟨h1, h2, h3⟩ := vst_ok e
  refine vst_4 h1 (by omega) (List.all_eq_true.2 fun x hx => ?_)
  rw [vrp_vpx h1]
  simpa using h3 x (hk x hx)
theorem rvC_0 {ps : List L} {h : List (List E)} {zs : List Int} (e : rvC ps h zs = 0) : vst ps h = 0 ∧ zs = ints (natS zs) ∧ ∀ m ∈ natS zs, m < h.length := by
  unfold rvC at e
  split at e
  · rename_i hv
    split at e
    · rename_i hb
      rw [Bool.and_eq_true] at hb
      exact ⟨hv, natS_ints hb.2⟩
    · cases e
  · rename_i hv; exact absurd e hv
theorem lef_mem {h : List (List E)} {s : List Nat} {m : Nat} (hm : m ∈ lefL h s) : m < h.length ∧ m ∉ s := by
  unfold lefL at hm
  rw [List.mem_filter, List.mem_range] at hm
  refine ⟨hm.1, fun hs => ?_⟩
  have h2 := hm.2
  unfold lefB at h2
  rw [List.contains_iff_mem.2 hs] at h2
  cases h2
theorem lef_len (h : List (List E)) (s : List Nat) : (lefL h s).length ≤ h.length := by
  unfold lefL
  have := List.length_filter_le (lefB h s) (List.range h.length)
  rwa [List.length_range] at this
theorem few_play {ps : List L} {h : List (List E)} {zs : List Int} (e : rvC ps h zs = 0) : vst ps ((lefL h (natS zs)).map (rpA h)) = 0 ∧ plyR ps ((lefL h (natS zs)).map (rpA h)) = rvR ps h zs := by
  obtain ⟨hv, _⟩ := rvC_0 e
  have h8 := (vst_ok hv).2.1
  have h1 : vst ps ((lefL h (natS zs)).map (rpA h)) = 0 := by
    refine vst_few hv (fun x hx => ?_) (by rw [List.length_map]; have := lef_len h (natS zs); omega)
    obtain ⟨m, hm, rfl⟩ := List.mem_map.1 hx
    obtain ⟨y, hy⟩ := get_of_lt (lef_mem hm).1
    rw [rpA_at hy]
    exact mem_of_get hy
  refine ⟨h1, ?_⟩
  unfold plyR rvR
  rw [if_pos h1, if_pos e, plyL_F]
theorem rvR_len {ps : List L} {h : List (List E)} {zs : List Int} : (rvR ps h zs).length ≤ ps.length := by
  unfold rvR
  split
  · rw [plyL_len]; exact Nat.le_refl _
  · simp
/-- The cells of the repairs that are kept. -/
def FewC (w : World) (h : List (List E)) (ns : List Nat) (k : Nat) (cs : List Value) : Prop := cs.length = k ∧ ∀ j m, j < k → ns[j]? = some m → ∃ a c, cs[j]? = some (.slice a (rpA h m).length c) ∧ EditsAt w a (rpA h m)
theorem FewC.push {w : World} {h : List (List E)} {ns : List Nat} {k m : Nat} {cs : List Value} (hf : FewC w h ns k cs) (hm : ns[k]? = some m) {a : Option Addr} {c : Nat} (he : EditsAt w a (rpA h m)) : FewC w h ns (k + 1) (cs ++ [.slice a (rpA h m).length c]) := by
  refine ⟨by rw [List.length_append, hf.1]; rfl, fun j m' hj hm' => ?_⟩
  rcases Nat.lt_or_ge j k with hlt | hge
  · obtain ⟨a1, c1, h1, h2⟩ := hf.2 j m' hlt hm'
    exact ⟨a1, c1, by rw [List.getElem?_append_left (by rw [hf.1]; exact hlt)]; exact h1, h2⟩
  · obtain rfl : j = k := by omega
    rw [hm] at hm'
    injection hm' with hm'
    subst hm'
    exact ⟨a, c, by rw [List.getElem?_append_right (by rw [hf.1]; exact Nat.le_refl _), hf.1, Nat.sub_self]; rfl, he⟩
theorem FewC.rows {w W : World} {h : List (List E)} {ns : List Nat} {cs : List Value} (hf : FewC w h ns ns.length cs) {base : Nat} {a : Option Addr} {c : Nat} (ho : W.ownsRow base 46 1 (.slice a ns.length c) ns.length cs) (hB : Below w.heap.size w W) : RowsEAt W a (ns.map (rpA h)) := by
  rcases Nat.eq_zero_or_pos ns.length with h0 | h0
  · exact .inl (by rw [List.eq_nil_of_length_eq_zero h0]; rfl)
  · obtain ⟨gb, rfl⟩ := own_form ho h0
    refine .inr ⟨gb, 0, rfl, own_lt ho, fun j x hj => ?_⟩
    rw [List.getElem?_map, Option.map_eq_some_iff] at hj
    obtain ⟨m, hm, rfl⟩ := hj
    obtain ⟨a1, c1, h1, h2⟩ := hf.2 j m (List.getElem?_eq_some_iff.1 hm).1 hm
    exact ⟨a1, c1, by rw [Nat.zero_add]; exact own_cell ho h1, h2.below hB (Nat.le_refl _)⟩

set_option maxRecDepth 100000 in
set_option maxHeartbeats 8000000 in
theorem storyLeaves_walk (a : Option Addr) (ca : Nat) (ps : List L) (g : Option Addr) (cg : Nat) (h : List (List E)) (b : Option Addr) (cb : Nat) (zs : List Int) (w : World) (hp : LinesAt w a ps) (hc : a = none → ca = 0) (hh : RowsEAt w g h) (hc1 : g = none → cg = 0) (hcg : h.length ≤ cg) (hml : h.length ≤ maxLen) (hz : IntsAt w b zs) (hc2 : b = none → cb = 0) :
    Calls Try.prog 7 #[.slice a ps.length ca, .slice g h.length cg, .slice b zs.length cb] w fun e w' => e = .returned (.bool true) ∧ Below w.heap.size w w' := by
  have HK := Lib.hid (fun w => sane7_true w)
  have HL := Lib.hid (fun w hh => long7_any a g ps.length ca cg h w hh hml)
  have HP := Lib.hid hp
  have HH := Lib.hid hh
  cases hl : lng7 ps.length h
  · obtain ⟨hpl0, hhl0, hm0⟩ := lng7_no hl
    have hpl : ps.length ≤ 1000 := by omega
    have hhl : h.length ≤ 1000 := by omega
    have hm : ∀ x ∈ h, x.length ≤ 1000 := fun x hx => by have := hm0 x hx; omega
    rw [hl] at HL
    have C1 := Lib.hid (fun (hzl : zs.length ≤ 1000) w h1 h2 h3 => stRevert_any a g b ca cg cb ps h zs w h1 h2 h3 hpl hhl hm hzl hcg)
    have HZ := Lib.hid hz
    clear hc hz
    clear hp hh hc1 hml hl hm0
    by_cases hzl : 50 < zs.length
    · have hz50 : (50 : Int) < (zs.length : Int) := by omega
      clear hm hcg
      go_enter Try.func7, Try.ntmps7
      go_wp2_with fail
      refine (HL.out _ HH.out).mono ?_
      rintro e w0 ⟨rfl, rfl⟩
      go_wp2_with fail
      refine (HK.out _ ).mono ?_
      rintro e w1 ⟨rfl, hB⟩
      have HB := Lib.hid hB
      clear hB
      go_wp2_with fail
      go_ret
      exact ⟨rfl, HB.out⟩
    · have hz50 : ¬ (50 : Int) < (zs.length : Int) := by omega
      have C1 := Lib.hid (C1.out (by omega))
      by_cases hrc : rvC ps h zs = 0
      · obtain ⟨hv, hzi, hzm⟩ := rvC_0 hrc
        have h8 := (vst_ok hv).2.1
        obtain ⟨hf1, hf2⟩ := few_play hrc
        have HRS := Lib.hid (show rvS ps h zs = ints (lefL h (natS zs)) by unfold rvS; rw [if_pos hrc])
        have hrl := rvR_len (ps := ps) (h := h) (zs := zs)
        rw [hrc, HRS.out] at C1
        have C3 := Lib.hid (fun (m : Nat) (hm' : m < h.length) w h1 h2 => by
          have h9 := stNeeds_any a g ca cg ps h (m : Int) w h1 h2 hpl hhl hm
          rw [vnC_of hv hm', if_pos rfl, Int.toNat_natCast] at h9
          exact h9)
        have C5 := Lib.hid (fun gf cf w h1 h2 => by
          have h9 := stPlay_any a gf ca cf ps ((lefL h (natS zs)).map (rpA h)) w h1 h2 hpl (by rw [List.length_map]; have := lef_len h (natS zs); omega) (fun x hx => by
            obtain ⟨m, hm2, rfl⟩ := List.mem_map.1 hx
            obtain ⟨y, hy⟩ := get_of_lt (lef_mem hm2).1
            rw [rpA_at hy]
            exact hm y (mem_of_get hy))
          rw [hf1, hf2, List.length_map] at h9
          exact h9)
        have S1 := Lib.hid (fun a' b' c' d' w h1 h2 => sameL4_self (rvR ps h zs).length a' b' c' d' (rvR ps h zs) w rfl h1 h2 (by omega))
        have HA := Lib.hid (fun m (hm : m ∈ lefL h (natS zs)) => show m < h.length ∧ hasB zs (m : Int) = false from by
          obtain ⟨q1, q2⟩ := lef_mem hm
          refine ⟨q1, ?_⟩
          rw [hzi, hasB_ints]
          cases hc9 : (natS zs).contains m with
          | false => rfl
          | true => exact absurd (List.contains_iff_mem.1 hc9) q2)
        have HT := Lib.hid (fun m (hm : m ∈ lefL h (natS zs)) z (hz : z ∈ ints (nedN h m)) => show hasB (ints (lefL h (natS zs))) z = true from by
          obtain ⟨j, hj, rfl⟩ := List.mem_map.1 hz
          show hasB _ ((j : Nat) : Int) = true
          rw [hasB_ints, List.contains_iff_mem]
          exact lef_closed hm ((ned_mem (lef_mem hm).1).1 hj))
        have HL3 := Lib.hid (ned_len h8)
        have RZ := Lib.hid (fun z w h => rHas4_any b cb zs z w h (by omega))
        have hll : (lefL h (natS zs)).length ≤ 8 := by have := lef_len h (natS zs); omega
        obtain ⟨i0, hi, hz0, hz1, hz2⟩ := info_parts info_edits
        generalize rvR ps h zs = R at *
        obtain ⟨ns, hns⟩ : ∃ ns, ns = lefL h (natS zs) := ⟨_, rfl⟩
        rw [← hns] at C1 C5 HA HT hll
        clear hrc hv hzi hzm hf1 hf2 HRS hns hzl hm hcg
        go_enter Try.func7, Try.ntmps7
        go_wp2_with fail
        refine (HL.out _ HH.out).mono ?_
        rintro e w0 ⟨rfl, rfl⟩
        go_wp2_with fail
        refine (C1.out _ HP.out HH.out HZ.out).mono ?_
        rintro e w1 ⟨a1, c1, a2, c2, rfl, hl1, hi2, hB⟩
        have HB := Lib.hid hB
        have H1 := Lib.hid (hl1)
        have H2 := Lib.hid (hi2)
        clear hB hl1 hi2
        have hxl := ints_len ns
        obtain ⟨xs, hxs⟩ : ∃ xs, xs = ints ns := ⟨_, rfl⟩
        have HXS := Lib.hid hxs
        rw [← hxs] at HT H2 hxl ⊢
        clear hxs
        have HXL := Lib.hid hxl
        have hx8 : xs.length ≤ 8 := by omega
        have R1 := Lib.hid (fun z w h => rHas4_any a2 c2 xs z w h (by omega))
        clear hxl
        go_wp2_with fail
        go_loopw [10, 11] (fun s10 s11 wr => ∃ (i : Nat) (cs : List Value), i ≤ xs.length ∧ s11 = .int .i64 i ∧ FewC w h ns i cs ∧ wr.ownsRow w1.heap.size 46 1 s10 i cs ∧ Below w1.heap.size w1 wr) (fun _ s11 _ => xs.length - (intOf s11).toNat)
        case atStart => exact ⟨0, [], Nat.zero_le _, rfl, ⟨rfl, fun j m hj => by omega⟩, World.ownsRow_nil _ _ _ _, Below.refl _ _⟩
        case round =>
          obtain ⟨i, cs, hi9, rfl, hFC, hO, hB2⟩ := hrel
          have HR := Lib.hid hB2
          have HBr := Lib.hid (HB.out.trans (hB2.mono HB.out.size))
          have H2r := Lib.hid (H2.out.below hB2 (Nat.le_refl _))
          have HFC := Lib.hid hFC
          have HO := Lib.hid hO
          clear hB2 hFC
          by_cases hlt : i < xs.length
          · obtain ⟨bq, off, z, rfl, hlb, hz9, c0⟩ := H2r.out.at_ hlt
            rw [HXS.out] at hz9
            obtain ⟨m, hmk, rfl⟩ := ints_get hz9
            obtain ⟨hml, hmz⟩ := HA.out m (mem_of_get hmk)
            have HTT := Lib.hid (HT.out m (mem_of_get hmk))
            have HMK := Lib.hid hmk
            have hd1 : decide ((m : Int) < 0) = false := decide_eq_false (by omega)
            have hd2 : decide (h.length ≤ m) = false := decide_eq_false (by omega)
            have l3 := HL3.out m
            have RZ1 := Lib.hid (RZ.out (m : Int) wr (HZ.out.below HBr.out (Nat.le_refl _)))
            rw [hmz] at RZ1
            obtain ⟨hb9, hoff, xe, ax, cx, hge, hhlb, hxs9, x0, hxa⟩ := HH.out.at_ hml
            have HXE := Lib.hid hxs9
            have HGE := Lib.hid hge
            have HXA := Lib.hid hxa
            clear hz9 hmk hmz hO hxs9 hge hxa
            go_wp2_with fail
            refine RZ1.out.mono ?_
            rintro e w3 ⟨rfl, rfl⟩
            go_wp2_with fail
            refine (C3.out m hml _ (HP.out.below HBr.out (Nat.le_refl _)) (HH.out.below HBr.out (Nat.le_refl _))).mono ?_
            rintro e w4 ⟨a4, c4, rfl, ho, hB⟩
            have H4 := Lib.hid (ints_of_own ho).1
            have H2r := Lib.hid (H2r.out.below hB (Nat.le_refl _))
            have d0 := (hB.cell (p := ⟨bq, _, none⟩) hlb).trans c0
            have HR4 := Lib.hid (HR.out.trans (hB.mono HR.out.size))
            have HB4 := Lib.hid (HBr.out.trans (hB.mono HBr.out.size))
            have HO4 := Lib.hid (own_below HO.out hB (Nat.le_refl _))
            have y0 := (HB4.out.cell (p := ⟨hb9, _, none⟩) hhlb).trans x0
            clear ho hB c0 HO x0
            generalize ints (nedN h m) = ys at *
            go_wp2_with fail
            go_loopw [14] (fun s14 wx => ∃ j : Nat, j ≤ ys.length ∧ s14 = .int .i64 j ∧ wx = w4) (fun s14 _ => ys.length - (intOf s14).toNat)
            case atStart => exact ⟨0, Nat.zero_le _, rfl, rfl⟩
            case round =>
              obtain ⟨j, hj, rfl, rfl⟩ := hrel
              by_cases hlj : j < ys.length
              · obtain ⟨b2, o2, y, rfl, hlb2, hy, e0⟩ := H4.out.at_ hlj
                have HRR := Lib.hid (R1.out y _ H2r.out)
                rw [HTT.out y (mem_of_get hy)] at HRR
                clear hy y0
                go_wp2_with fail
                refine HRR.out.mono ?_
                rintro e w5 ⟨rfl, rfl⟩
                go_wp2_with fail
                go_roundw
                case rel => exact ⟨j + 1, by omega, by go_num, by first | trivial | rfl⟩
                case measure => simp [intOf]; omega
              · have hge := HGE.out
                subst hge
                have HFC2 := Lib.hid (FewC.push (c := cx) HFC.out HMK.out (by rw [rpA_at HXE.out]; exact HXA.out))
                rw [rpA_at HXE.out] at HFC2
                go_wp2_with (at_builtin; refine wpList_append_own _ rfl (.tmp 90) (.tmp 98) 23 rfl w1.heap.size 46 i0 (.slice none 0 0) 1 24 Try.underlying23 hi hz0 hz1 hz2 rfl (by decide) _ _ _ rfl (HO4.out.alloc _) ⟨wr.heap.size, 0, none⟩ 1 1 [.slice ax xe.length cx] rfl rfl ?c1 ?c2 ?c3 ?c4 ?c5 ?_)
                case c2 => simp [Value.oneCell']
                case c3 => unfold maxLen; omega
                case c4 => omega
                case c5 => have := HR4.out.size; simp; omega
                intro v' w6 hown' hgrow _
                have hBw : Below w1.heap.size w1 w6 := (HR4.out.alloc HR4.out.size _).grown hgrow (by have := HR4.out.size; simp; omega) (own_base HO4.out)
                have HO6 := Lib.hid hown'
                have HR6 := Lib.hid hBw
                clear hown' hgrow hBw
                go_wp2_with fail
                go_roundw
                case rel => exact ⟨i + 1, _, by omega, by go_num, HFC2.out, HO6.out, HR6.out⟩
                case measure => simp [intOf]; omega
          · obtain rfl : i = xs.length := by omega
            have hnx := HXL.out
            have HFC := Lib.hid (hnx ▸ HFC.out)
            have hO2 := HO.out
            rw [hnx] at hO2 ⊢
            obtain ⟨gf, cf, rfl⟩ := own_slice hO2
            have HRW := Lib.hid (HFC.out.rows hO2 HBr.out)
            have HL1 := Lib.hid (H1.out.below HR.out (Nat.le_refl _))
            clear hO2 HO HA HT hnx
            go_wp2_with fail
            refine (C5.out _ _ _ (HP.out.below HBr.out (Nat.le_refl _)) HRW.out).mono ?_
            rintro e w5 ⟨a5, c5, rfl, ho5, hB⟩
            have HL1 := Lib.hid (HL1.out.below hB (Nat.le_refl _))
            have HL5 := Lib.hid (lines_of_own ho5).1
            have HB5 := Lib.hid (HBr.out.trans (hB.mono HBr.out.size))
            clear ho5 hB
            go_wp2_with fail
            refine (S1.out _ _ _ _ _ HL1.out HL5.out).mono ?_
            rintro e w6 ⟨rfl, hB⟩
            have HB5 := Lib.hid (HB5.out.trans (hB.mono HB5.out.size))
            clear hB
            go_wp2_with fail
            refine (HK.out _).mono ?_
            rintro e w7 ⟨rfl, hB⟩
            go_wp2_with fail
            go_ret
            exact ⟨rfl, HB5.out.trans (hB.mono HB5.out.size)⟩
      · have hz1 : (rvC ps h zs != 0) = true := by simpa using hrc
        generalize rvC ps h zs = c at C1 hz1
        generalize rvR ps h zs = R at C1
        generalize rvS ps h zs = S at C1
        clear hrc hm hcg
        go_enter Try.func7, Try.ntmps7
        go_wp2_with fail
        refine (HL.out _ HH.out).mono ?_
        rintro e w0 ⟨rfl, rfl⟩
        go_wp2_with fail
        refine (C1.out _ HP.out HH.out HZ.out).mono ?_
        rintro e w1 ⟨a1, c1, a2, c2, rfl, hl1, hi2, hB⟩
        have HB := Lib.hid hB
        clear hB hl1 hi2
        go_wp2_with fail
        refine (HK.out _ ).mono ?_
        rintro e w2 ⟨rfl, hB⟩
        have HB := Lib.hid (HB.out.trans (hB.mono HB.out.size))
        clear hB
        go_wp2_with fail
        go_ret
        exact ⟨rfl, HB.out⟩
  · rw [hl] at HL
    clear hp hh hc hc1 hcg hml hl hz hc2
    go_enter Try.func7, Try.ntmps7
    go_wp2_with fail
    refine (HL.out _ HH.out).mono ?_
    rintro e w0 ⟨rfl, rfl⟩
    go_wp2_with fail
    refine (HK.out _ ).mono ?_
    rintro e w1 ⟨rfl, hB⟩
    have HB := Lib.hid hB
    clear hB
    go_wp2_with fail
    go_ret
    exact ⟨rfl, HB.out⟩

end Go.Proofs.Ytikblaebfpdngaa

/- StoryReverts: the walk. -/
set_option linter.unusedVariables false
set_option linter.unusedSimpArgs false
namespace Go.Proofs.Ytikblaebfpdngaa
open Go.RowKit Tinker

theorem natS_of (l : List Nat) : natS (ints l) = l := by
  unfold natS ints
  rw [List.map_map]
  exact (List.map_congr_left fun x _ => Int.toNat_natCast x).trans (List.map_id l)
theorem set_range (n : Nat) : isSetB (ints (List.range n)) = true := by
  refine (isSetB_iff _).2 fun i hi => ?_
  have hl : i + 1 < n := by rwa [ints_len, List.length_range] at hi
  unfold ints
  rw [List.getD_eq_getElem?_getD, List.getD_eq_getElem?_getD, List.getElem?_map, List.getElem?_map, List.getElem?_range (by omega), List.getElem?_range hl]
  show (i : Int) < ((i + 1 : Nat) : Int)
  omega
theorem btw_range (n : Nat) : allBtw (ints (List.range n)) 0 ((n : Int) - 1) = true := by
  refine List.all_eq_true.2 fun z hz => ?_
  obtain ⟨m, hm, rfl⟩ := List.mem_map.1 hz
  have := List.mem_range.1 hm
  have : 0 ≤ (m : Int) ∧ (m : Int) ≤ (n : Int) - 1 := ⟨by omega, by omega⟩
  exact btw_true.2 this
theorem rv_all {ps : List L} {h : List (List E)} (hv : vst ps h = 0) : rvC ps h (ints (List.range h.length)) = 0 ∧ rvR ps h (ints (List.range h.length)) = ps ∧ rvS ps h (ints (List.range h.length)) = [] := by
  have h1 : rvC ps h (ints (List.range h.length)) = 0 := by unfold rvC; rw [if_pos hv, set_range, btw_range]; rfl
  refine ⟨h1, ?_, ?_⟩
  · unfold rvR; rw [if_pos h1, natS_of, lef_all]; rfl
  · unfold rvS; rw [if_pos h1, natS_of, lef_all]; rfl
theorem rv_none {ps : List L} {h : List (List E)} (hv : vst ps h = 0) : rvC ps h [] = 0 ∧ rvR ps h [] = plyR ps h ∧ rvS ps h [] = ints (List.range h.length) := by
  have h1 : rvC ps h [] = 0 := by unfold rvC; rw [if_pos hv]; rfl
  refine ⟨h1, ?_, ?_⟩
  · unfold rvR plyR; rw [if_pos h1, if_pos hv, plyF_all, show natS [] = [] from rfl, lef_none]
  · unfold rvS; rw [if_pos h1, show natS [] = [] from rfl, lef_none]
theorem rvS_len (ps : List L) (h : List (List E)) (zs : List Int) : (rvS ps h zs).length ≤ h.length := by
  unfold rvS
  split
  · rw [ints_len]; exact lef_len _ _
  · simp

set_option maxRecDepth 100000 in
set_option maxHeartbeats 8000000 in
theorem storyReverts_walk (a : Option Addr) (ca : Nat) (ps : List L) (g : Option Addr) (cg : Nat) (h : List (List E)) (b : Option Addr) (cb : Nat) (zs : List Int) (w : World) (hp : LinesAt w a ps) (hc : a = none → ca = 0) (hh : RowsEAt w g h) (hc1 : g = none → cg = 0) (hcg : h.length ≤ cg) (hml : h.length ≤ maxLen) (hz : IntsAt w b zs) (hc2 : b = none → cb = 0) :
    Calls Try.prog 6 #[.slice a ps.length ca, .slice g h.length cg, .slice b zs.length cb] w fun e w' => e = .returned (.bool true) ∧ Below w.heap.size w w' := by
  have HK := Lib.hid (fun w => sane7_true w)
  have HL := Lib.hid (fun w hh => long7_any a g ps.length ca cg h w hh hml)
  have HP := Lib.hid hp
  have HH := Lib.hid hh
  cases hl : lng7 ps.length h
  · obtain ⟨hpl0, hhl0, hm0⟩ := lng7_no hl
    have hpl : ps.length ≤ 1000 := by omega
    have hhl : h.length ≤ 1000 := by omega
    have hm : ∀ x ∈ h, x.length ≤ 1000 := fun x hx => by have := hm0 x hx; omega
    rw [hl] at HL
    have C1 := Lib.hid (fun (hzl : zs.length ≤ 1000) w h1 h2 h3 => stRevert_any a g b ca cg cb ps h zs w h1 h2 h3 hpl hhl hm hzl hcg)
    have C2 := Lib.hid (fun (hzl : zs.length ≤ 1000) w h1 h2 h3 => rRevert_any a g b ca cg cb ps h zs w h1 hc h2 h3 hpl hhl hm hzl)
    have HZ := Lib.hid hz
    have hq1 : (rvR ps h zs).length ≤ 1000 := by have := rvR_len (ps := ps) (h := h) (zs := zs); omega
    have hq2 : (rvS ps h zs).length ≤ 1000 := by have := rvS_len ps h zs; omega
    have S1 := Lib.hid (fun a' b' c' d' w h1 h2 => sameL4_self (rvR ps h zs).length a' b' c' d' (rvR ps h zs) w rfl h1 h2 (by omega))
    have S2 := Lib.hid (fun a' b' c' d' w h1 h2 => sameI4_self (rvS ps h zs).length a' b' c' d' (rvS ps h zs) w rfl h1 h2 hq2)
    clear hc hz
    clear hp hh hc1 hml hl hm0
    by_cases hzl : 50 < zs.length
    · have hz50 : (50 : Int) < (zs.length : Int) := by omega
      clear hm hcg
      go_enter Try.func6, Try.ntmps6
      go_wp2_with fail
      refine (HL.out _ HH.out).mono ?_
      rintro e w0 ⟨rfl, rfl⟩
      go_wp2_with fail
      refine (HK.out _ ).mono ?_
      rintro e w1 ⟨rfl, hB⟩
      have HB := Lib.hid hB
      clear hB
      go_wp2_with fail
      go_ret
      exact ⟨rfl, HB.out⟩
    · have hz50 : ¬ (50 : Int) < (zs.length : Int) := by omega
      have C1 := Lib.hid (C1.out (by omega))
      have C2 := Lib.hid (C2.out (by omega))
      by_cases hrc : rvC ps h zs = 0
      · have hv := (rvC_0 hrc).1
        obtain ⟨r1, r2, r3⟩ := rv_all hv
        obtain ⟨t1, t2, t3⟩ := rv_none hv
        have hpr : (plyR ps h).length ≤ 1000 := by unfold plyR; rw [if_pos hv, plyF_len]; omega
        have C3 := Lib.hid (fun v cv w h1 h2 h3 => by
          have h9 := stRevert_any a g v ca cg cv ps h (ints (List.range h.length)) w h1 h2 h3 hpl hhl hm (by rw [ints_len, List.length_range]; omega) hcg
          rw [r1, r2, r3, ints_len, List.length_range] at h9
          exact h9)
        have C4 := Lib.hid (fun w h1 h2 => by
          have h9 := stRevert_any a g none ca cg 0 ps h [] w h1 h2 (.inl rfl) hpl hhl hm (by simp) hcg
          rw [t1, t2, t3] at h9
          exact h9)
        have C5 := Lib.hid (fun w h1 h2 => by
          have h9 := stPlay_any a g ca cg ps h w h1 h2 hpl hhl hm
          rw [hv] at h9
          exact h9)
        have S3 := Lib.hid (fun a' b' c' d' w h1 h2 => sameL4_self ps.length a' b' c' d' ps w rfl h1 h2 (by omega))
        have S4 := Lib.hid (fun a' b' c' d' w h1 h2 => sameL4_self (plyR ps h).length a' b' c' d' (plyR ps h) w rfl h1 h2 (by omega))
        have S5 := Lib.hid (fun a' b' c' d' w h1 h2 => sameI4_self h.length a' b' c' d' (ints (List.range h.length)) w (by rw [ints_len, List.length_range]) h1 h2 hhl)
        have hln := Lib.hid (show (ints (List.range h.length)).length = h.length by rw [ints_len, List.length_range])
        obtain ⟨i0, hi, hz0, hz1, hz2⟩ := info_parts info_int
        rw [hrc] at C1 C2
        generalize plyR ps h = q at *
        generalize rvR ps h zs = R at *
        generalize rvS ps h zs = S at *
        clear hrc hv r1 r2 r3 t1 t2 t3 hzl hm hcg
        go_enter Try.func6, Try.ntmps6
        go_wp2_with fail
        refine (HL.out _ HH.out).mono ?_
        rintro e w0 ⟨rfl, rfl⟩
        go_wp2_with fail
        refine (C1.out _ HP.out HH.out HZ.out).mono ?_
        rintro e w1 ⟨a1, c1, d1, e1, rfl, hl, hi, hB⟩
        have HB := Lib.hid hB
        have HL1 := Lib.hid (hl)
        have HI1 := Lib.hid (hi)
        clear hB hl hi
        go_wp2_with fail
        refine (C2.out _ (HP.out.below HB.out (Nat.le_refl _)) (HH.out.below HB.out (Nat.le_refl _)) (HZ.out.below HB.out (Nat.le_refl _))).mono ?_
        rintro e w2 ⟨a2, c2, d2, e2, rfl, hl, hi, hB⟩
        have HL1 := Lib.hid (HL1.out.below hB (Nat.le_refl _))
        have HI1 := Lib.hid (HI1.out.below hB (Nat.le_refl _))
        have HB := Lib.hid (HB.out.trans (hB.mono HB.out.size))
        have HL2 := Lib.hid (hl)
        have HI2 := Lib.hid (hi)
        clear hB hl hi
        go_wp2_with fail
        refine (S1.out _ _ _ _ _  HL1.out HL2.out).mono ?_
        rintro e w3 ⟨rfl, hB⟩
        have HL1 := Lib.hid (HL1.out.below hB (Nat.le_refl _))
        have HI1 := Lib.hid (HI1.out.below hB (Nat.le_refl _))
        have HL2 := Lib.hid (HL2.out.below hB (Nat.le_refl _))
        have HI2 := Lib.hid (HI2.out.below hB (Nat.le_refl _))
        have HB := Lib.hid (HB.out.trans (hB.mono HB.out.size))
        clear hB
        go_wp2_with fail
        refine (S2.out _ _ _ _ _  HI1.out HI2.out).mono ?_
        rintro e w4 ⟨rfl, hB⟩
        clear HL1
        clear HL2
        clear HI1
        clear HI2
        have HB := Lib.hid (HB.out.trans (hB.mono HB.out.size))
        clear hB
        go_wp2_with fail
        go_loopw [13, 14] (fun s13 s14 wr => ∃ i : Nat, i ≤ h.length ∧ s14 = .int .i64 i ∧ wr.ownsRow w4.heap.size 3 1 s13 i ((ints (List.range i)).map (Value.int .i64)) ∧ Below w4.heap.size w4 wr) (fun _ s14 _ => h.length - (intOf s14).toNat)
        case atStart => exact ⟨0, Nat.zero_le _, rfl, World.ownsRow_nil _ _ _ _, Below.refl _ _⟩
        case round =>
          obtain ⟨i, hi9, rfl, hown, hB⟩ := hrel
          have HO := Lib.hid hown
          have HBi := Lib.hid hB
          clear hown hB
          by_cases hlt : i < h.length
          · go_wp2_with (at_builtin; refine wpList_append_own _ rfl (.tmp 72) (.tmp 74) 35 rfl w4.heap.size 3 i0 (.int .i64 0) 1 8 Try.underlying35 hi hz0 hz1 hz2 rfl (by decide) _ _ _ rfl (HO.out.alloc _) ⟨wr.heap.size, 0, none⟩ 1 1 [.int .i64 i] rfl rfl ?c1 ?c2 ?c3 ?c4 ?c5 ?_)
            case c1 => exact cell_one_new _ _ _
            case c2 => simp [Value.oneCell']
            case c3 => unfold maxLen; omega
            case c4 => omega
            case c5 => have := HBi.out.size; simp; omega
            intro v' wn hown' hgrow _
            have hB1 : Below w4.heap.size w4 wn := (HBi.out.alloc HBi.out.size _).grown hgrow (by have := HBi.out.size; simp; omega) (own_base HO.out)
            have e : (ints (List.range i)).map (Value.int .i64) ++ [.int .i64 i] = (ints (List.range (i + 1))).map (Value.int .i64) := by rw [List.range_succ]; unfold ints; simp
            rw [e] at hown'
            have HO3 := Lib.hid hown'
            have HB3 := Lib.hid hB1
            clear hown' hgrow e hB1 HO HBi
            go_wp2_with fail
            go_roundw
            case rel => exact ⟨i + 1, by omega, by go_num, HO3.out, HB3.out⟩
            case measure => simp [intOf]; omega
          · obtain rfl : i = h.length := by omega
            have hO9 := HO.out
            obtain ⟨av, cv, rfl⟩ := own_slice hO9
            have HE := Lib.hid (ints_of_own hO9).1
            have HB := Lib.hid (HB.out.trans (HBi.out.mono HB.out.size))
            clear hO9 HO HBi
            go_wp2_with fail
            refine (C3.out _ _ _ (HP.out.below HB.out (Nat.le_refl _)) (HH.out.below HB.out (Nat.le_refl _)) HE.out).mono ?_
            rintro e w5 ⟨a3, c3, d3, e3, rfl, hl, hi, hB⟩
            have HE := Lib.hid (HE.out.below hB (Nat.le_refl _))
            have HB := Lib.hid (HB.out.trans (hB.mono HB.out.size))
            have HL3 := Lib.hid (hl)
            clear hB hl hi
            go_wp2_with fail
            refine (C4.out _ (HP.out.below HB.out (Nat.le_refl _)) (HH.out.below HB.out (Nat.le_refl _))).mono ?_
            rintro e w6 ⟨a4, c4, d4, e4, rfl, hl, hi, hB⟩
            have HE := Lib.hid (HE.out.below hB (Nat.le_refl _))
            have HL3 := Lib.hid (HL3.out.below hB (Nat.le_refl _))
            have HB := Lib.hid (HB.out.trans (hB.mono HB.out.size))
            have HL4 := Lib.hid (hl)
            have HI4 := Lib.hid (hi)
            clear hB hl hi
            rw [hln.out]
            go_wp2_with fail
            refine (C5.out _ (HP.out.below HB.out (Nat.le_refl _)) (HH.out.below HB.out (Nat.le_refl _))).mono ?_
            rintro e w7 ⟨a5, c5, rfl, ho, hB⟩
            have HE := Lib.hid (HE.out.below hB (Nat.le_refl _))
            have HL3 := Lib.hid (HL3.out.below hB (Nat.le_refl _))
            have HL4 := Lib.hid (HL4.out.below hB (Nat.le_refl _))
            have HI4 := Lib.hid (HI4.out.below hB (Nat.le_refl _))
            have HB := Lib.hid (HB.out.trans (hB.mono HB.out.size))
            have HL5 := Lib.hid ((lines_of_own ho).1)
            clear hB ho
            go_wp2_with fail
            refine (S3.out _ _ _ _ _  HL3.out (HP.out.below HB.out (Nat.le_refl _))).mono ?_
            rintro e w8 ⟨rfl, hB⟩
            have HE := Lib.hid (HE.out.below hB (Nat.le_refl _))
            have HL3 := Lib.hid (HL3.out.below hB (Nat.le_refl _))
            have HL4 := Lib.hid (HL4.out.below hB (Nat.le_refl _))
            have HI4 := Lib.hid (HI4.out.below hB (Nat.le_refl _))
            have HL5 := Lib.hid (HL5.out.below hB (Nat.le_refl _))
            have HB := Lib.hid (HB.out.trans (hB.mono HB.out.size))
            clear hB
            go_wp2_with fail
            refine (S4.out _ _ _ _ _  HL4.out HL5.out).mono ?_
            rintro e w9 ⟨rfl, hB⟩
            have HE := Lib.hid (HE.out.below hB (Nat.le_refl _))
            have HL3 := Lib.hid (HL3.out.below hB (Nat.le_refl _))
            have HL4 := Lib.hid (HL4.out.below hB (Nat.le_refl _))
            have HI4 := Lib.hid (HI4.out.below hB (Nat.le_refl _))
            have HL5 := Lib.hid (HL5.out.below hB (Nat.le_refl _))
            have HB := Lib.hid (HB.out.trans (hB.mono HB.out.size))
            clear hB
            go_wp2_with fail
            refine (S5.out _ _ _ _ _  HI4.out HE.out).mono ?_
            rintro e w10 ⟨rfl, hB⟩
            have HE := Lib.hid (HE.out.below hB (Nat.le_refl _))
            have HL3 := Lib.hid (HL3.out.below hB (Nat.le_refl _))
            have HL4 := Lib.hid (HL4.out.below hB (Nat.le_refl _))
            have HI4 := Lib.hid (HI4.out.below hB (Nat.le_refl _))
            have HL5 := Lib.hid (HL5.out.below hB (Nat.le_refl _))
            have HB := Lib.hid (HB.out.trans (hB.mono HB.out.size))
            clear hB
            go_wp2_with fail
            refine (HK.out _ ).mono ?_
            rintro e w11 ⟨rfl, hB⟩
            have HE := Lib.hid (HE.out.below hB (Nat.le_refl _))
            have HL3 := Lib.hid (HL3.out.below hB (Nat.le_refl _))
            have HL4 := Lib.hid (HL4.out.below hB (Nat.le_refl _))
            have HI4 := Lib.hid (HI4.out.below hB (Nat.le_refl _))
            have HL5 := Lib.hid (HL5.out.below hB (Nat.le_refl _))
            have HB := Lib.hid (HB.out.trans (hB.mono HB.out.size))
            clear hB
            go_wp2_with fail
            go_ret
            exact ⟨rfl, HB.out⟩
      · have hz1 : (rvC ps h zs != 0) = true := by simpa using hrc
        have e1 : (rvC ps h zs != rvC ps h zs) = false := by simp
        generalize rvC ps h zs = c at *
        generalize rvR ps h zs = R at *
        generalize rvS ps h zs = S at *
        clear hrc hm hcg
        go_enter Try.func6, Try.ntmps6
        go_wp2_with fail
        refine (HL.out _ HH.out).mono ?_
        rintro e w0 ⟨rfl, rfl⟩
        go_wp2_with fail
        refine (C1.out _ HP.out HH.out HZ.out).mono ?_
        rintro e w1 ⟨a1, c1, d1, e1, rfl, hl, hi, hB⟩
        have HB := Lib.hid hB
        have HL1 := Lib.hid (hl)
        have HI1 := Lib.hid (hi)
        clear hB hl hi
        go_wp2_with fail
        refine (C2.out _ (HP.out.below HB.out (Nat.le_refl _)) (HH.out.below HB.out (Nat.le_refl _)) (HZ.out.below HB.out (Nat.le_refl _))).mono ?_
        rintro e w2 ⟨a2, c2, d2, e2, rfl, hl, hi, hB⟩
        have HL1 := Lib.hid (HL1.out.below hB (Nat.le_refl _))
        have HI1 := Lib.hid (HI1.out.below hB (Nat.le_refl _))
        have HB := Lib.hid (HB.out.trans (hB.mono HB.out.size))
        have HL2 := Lib.hid (hl)
        have HI2 := Lib.hid (hi)
        clear hB hl hi
        go_wp2_with fail
        refine (S1.out _ _ _ _ _  HL1.out HL2.out).mono ?_
        rintro e w3 ⟨rfl, hB⟩
        have HL1 := Lib.hid (HL1.out.below hB (Nat.le_refl _))
        have HI1 := Lib.hid (HI1.out.below hB (Nat.le_refl _))
        have HL2 := Lib.hid (HL2.out.below hB (Nat.le_refl _))
        have HI2 := Lib.hid (HI2.out.below hB (Nat.le_refl _))
        have HB := Lib.hid (HB.out.trans (hB.mono HB.out.size))
        clear hB
        go_wp2_with fail
        refine (S2.out _ _ _ _ _  HI1.out HI2.out).mono ?_
        rintro e w4 ⟨rfl, hB⟩
        clear HL1
        clear HL2
        clear HI1
        clear HI2
        have HB := Lib.hid (HB.out.trans (hB.mono HB.out.size))
        clear hB
        go_wp2_with fail
        refine (HK.out _ ).mono ?_
        rintro e w5 ⟨rfl, hB⟩
        have HB := Lib.hid (HB.out.trans (hB.mono HB.out.size))
        clear hB
        go_wp2_with fail
        go_ret
        exact ⟨rfl, HB.out⟩
  · rw [hl] at HL
    clear hp hh hc hc1 hcg hml hl hz hc2
    go_enter Try.func6, Try.ntmps6
    go_wp2_with fail
    refine (HL.out _ HH.out).mono ?_
    rintro e w0 ⟨rfl, rfl⟩
    go_wp2_with fail
    refine (HK.out _ ).mono ?_
    rintro e w1 ⟨rfl, hB⟩
    have HB := Lib.hid hB
    clear hB
    go_wp2_with fail
    go_ret
    exact ⟨rfl, HB.out⟩

end Go.Proofs.Ytikblaebfpdngaa
