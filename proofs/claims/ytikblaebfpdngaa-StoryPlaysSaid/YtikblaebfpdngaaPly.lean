/- StoryPlays: the walk. -/
import Derived.Test.YtikblaebfpdngaaLng7
import Derived.Test.YtikblaebfpdngaaHdA
import Derived.Test.YtikblaebfpdngaaOpenH
set_option linter.unusedVariables false
set_option linter.unusedSimpArgs false
namespace Go.Proofs.Ytikblaebfpdngaa
open Go.RowKit Tinker

set_option maxRecDepth 100000 in
set_option maxHeartbeats 8000000 in
theorem storyPlays_walk (a : Option Addr) (ca : Nat) (ps : List L) (g : Option Addr) (cg : Nat) (h : List (List E)) (n : Int) (w : World) (hp : LinesAt w a ps) (hc : a = none → ca = 0) (hh : RowsEAt w g h) (hc1 : g = none → cg = 0) (hcg : h.length ≤ cg) (hml : h.length ≤ maxLen) :
    Calls Try.prog 3 #[.slice a ps.length ca, .slice g h.length cg, .int .i64 n] w fun e w' => e = .returned (.bool true) ∧ Below w.heap.size w w' := by
  have HK := Lib.hid (fun w => sane7_true w)
  have HL := Lib.hid (fun w hh => long7_any a g ps.length ca cg h w hh hml)
  have HP := Lib.hid hp
  have HH := Lib.hid hh
  cases hl : lng7 ps.length h
  · obtain ⟨hpl0, hhl0, hm0⟩ := lng7_no hl
    have hpl : ps.length ≤ 1000 := by omega
    have hhl : h.length ≤ 1000 := by omega
    have hm : ∀ x ∈ h, x.length ≤ 1000 := fun x hx => by have := hm0 x hx; omega
    rw [hl] at HL
    obtain ⟨i0, hi, hz0, hz1, hz2⟩ := info_parts info_line
    have hown := World.ownsRow_lit (base := w.heap.size) (e := 33) (size := 4) w #[] 0 (Nat.le_refl _) (by simp [maxLen]) (by simp)
    have C1 := Lib.hid (fun b c w h1 h2 => stPlay_any b g c cg ps h w h1 h2 hpl hhl hm)
    have C2 := Lib.hid (fun w h1 h2 => rHPlay_any a g ca cg ps h w h1 hc h2 hpl hhl hm)
    have C3 := Lib.hid (fun b c w h1 h2 => stAt_any b g c cg ps h n w h1 h2 hpl hhl hm hcg)
    have C4 := Lib.hid (fun w h1 h2 => rHAt_any a g ca cg ps h n w h1 hc h2 hpl hhl hm)
    have C5 := Lib.hid (fun w h1 h2 => stVal_any a g ca cg ps h w h1 h2 hpl hhl hm)
    have C6 := Lib.hid (fun w h1 h2 => rHval_any a g ca cg ps h w h1 h2 hpl hhl hm)
    have hq1 : (plyR ps h).length ≤ 100 := by unfold plyR; split; · rw [plyF_len]; omega
                                              · simp
    have hq2 : (atR ps h n).length ≤ 100 := by unfold atR; split; · rw [plyF_len]; omega
                                               · simp
    have S1 := Lib.hid (fun a' b' c' d' w h1 h2 => sameL4_self (plyR ps h).length a' b' c' d' (plyR ps h) w rfl h1 h2 (by omega))
    have S2 := Lib.hid (fun a' b' c' d' w h1 h2 => sameL4_self (atR ps h n).length a' b' c' d' (atR ps h n) w rfl h1 h2 (by omega))
    have S3 := Lib.hid (fun a' b' c' d' w h1 h2 => sameL4_self ps.length a' b' c' d' ps w rfl h1 h2 (by omega))
    generalize plyR ps h = q at *
    generalize atR ps h n = r at *
    generalize vst ps h = v1 at *
    generalize atC ps h n = v2 at *
    have e1 : (v1 != v1) = false := by simp
    have e2 : (v2 != v2) = false := by simp
    clear hp hh hc1 hml hl hm0
    go_enter Try.func3, Try.ntmps3
    go_wp2_with fail
    refine (HL.out _ HH.out).mono ?_
    rintro e w0 ⟨rfl, rfl⟩
    go_upto_region 3 with fail
    go_cut [7] (fun s7 wx => wx.ownsRow w.heap.size 33 4 s7 ps.length (lc ps) ∧ Below w.heap.size w wx)
    case first =>
      cases a with
      | none =>
        have hps := HP.out.none
        have hc0 := hc rfl
        subst hps
        subst hc0
        clear hc C1 C2 C3 C4 C5 C6 S1 S2 S3
        go_wp2_with (at_builtin; (refine wpList_append_own_none rfl (.tmp 22) (.tmp 23) 22 rfl w.heap.size 33 i0 4 Try.underlying22 hi _ 0 [] rfl hown rfl ?_))
        have HO := Lib.hid hown
        clear hown
        go_wp2_with fail
        go_meet
        exact ⟨HO.out, (Below.refl _ _).alloc (Nat.le_refl _) _⟩
      | some ad =>
        have HC := Lib.hid HP.out.cells
        clear hc C1 C2 C3 C4 C5 C6 S1 S2 S3
        go_wp2_with (at_builtin; (refine wpList_append_own _ rfl (.tmp 22) (.tmp 23) 22 rfl w.heap.size 33 i0 (.agg #[.int .i64 0, .int .i64 0, .int .i64 0, .int .i64 0]) 4 32 Try.underlying22 hi hz0 hz1 hz2 rfl (by decide) _ 0 [] rfl hown ad ps.length ca (lc ps) rfl ?c1 ?c2 ?c3 ?c4 ?c5 ?c6 ?_))
        case c1 => exact lc_length ps
        case c2 => intro j u hu; exact cell_alloc_keep (HC.out j u hu)
        case c3 => exact lc_one ps
        case c4 => simp [maxLen]; omega
        case c5 => omega
        case c6 => simp
        intro v' w1 hown1 hgrow _
        have HB := Lib.hid (show Below w.heap.size w w1 from ((Below.refl _ _).alloc (Nat.le_refl _) _).grown hgrow (by simp) (by rintro k hk; simp [Value.ownBlock] at hk; omega))
        have HO := Lib.hid (show w1.ownsRow w.heap.size 33 4 v' ps.length (lc ps) by simpa using hown1)
        clear hown1 hown hgrow
        go_wp2_with fail
        go_meet
        exact ⟨HO.out, HB.out⟩
    case rest =>
      obtain ⟨hO0, hB0⟩ := hcut
      rename_i wc
      obtain ⟨va, vc, rfl⟩ := own_slice hO0
      have HO0 := Lib.hid (lines_of_own hO0).1
      have HOW := Lib.hid HO0.out
      have HB := Lib.hid hB0
      have HC := Lib.hid (Below.refl wc.heap.size wc)
      have HB0 := Lib.hid hB0
      clear hO0 hB0 hown hc
      go_wp2_with fail
      refine (C1.out _ _ _ HO0.out (HH.out.below HB.out (Nat.le_refl _))).mono ?_
      rintro e w1 ⟨a1, c1, rfl, ho, hB⟩
      have HO0 := Lib.hid (HO0.out.below hB (Nat.le_refl _))
      have HB := Lib.hid (HB.out.trans (hB.mono HB.out.size))
      have HC := Lib.hid (HC.out.trans (hB.mono HC.out.size))
      have O1 := Lib.hid (ho)
      clear hB ho
      go_wp2_with fail
      refine (C2.out _ (HP.out.below HB.out (Nat.le_refl _)) (HH.out.below HB.out (Nat.le_refl _))).mono ?_
      rintro e w2 ⟨a2, c2, rfl, ho, hB⟩
      have HO0 := Lib.hid (HO0.out.below hB (Nat.le_refl _))
      have O1 := Lib.hid (own_below O1.out hB (Nat.le_refl _))
      have HB := Lib.hid (HB.out.trans (hB.mono HB.out.size))
      have HC := Lib.hid (HC.out.trans (hB.mono HC.out.size))
      have H2 := Lib.hid ((lines_of_own ho).1)
      clear hB ho
      have HC2 := Lib.hid (Below.refl w2.heap.size w2)
      have HCW := Lib.hid HC.out.size
      have hg1 : ∀ gb, a1 = some ⟨gb, 0, none⟩ → gb < w2.heap.size := fun gb e9 => by subst e9; exact own_lt O1.out
      go_wp2_with fail
      refine (C3.out _ _ _ HO0.out (HH.out.below HB.out (Nat.le_refl _))).mono ?_
      rintro e w3 ⟨a3, c3, rfl, ho, hB⟩
      have HO0 := Lib.hid (HO0.out.below hB (Nat.le_refl _))
      have O1 := Lib.hid (own_below O1.out hB (Nat.le_refl _))
      have H2 := Lib.hid (H2.out.below hB (Nat.le_refl _))
      have HB := Lib.hid (HB.out.trans (hB.mono HB.out.size))
      have HC := Lib.hid (HC.out.trans (hB.mono HC.out.size))
      have HC2 := Lib.hid (HC2.out.trans (hB.mono HC2.out.size))
      have O3 := Lib.hid (ho)
      clear hB ho
      go_wp2_with fail
      refine (C4.out _ (HP.out.below HB.out (Nat.le_refl _)) (HH.out.below HB.out (Nat.le_refl _))).mono ?_
      rintro e w4 ⟨a4, c4, rfl, ho, hB⟩
      have HO0 := Lib.hid (HO0.out.below hB (Nat.le_refl _))
      have O1 := Lib.hid (own_below O1.out hB (Nat.le_refl _))
      have H2 := Lib.hid (H2.out.below hB (Nat.le_refl _))
      have O3 := Lib.hid (own_below O3.out hB (Nat.le_refl _))
      have HB := Lib.hid (HB.out.trans (hB.mono HB.out.size))
      have HC := Lib.hid (HC.out.trans (hB.mono HC.out.size))
      have HC2 := Lib.hid (HC2.out.trans (hB.mono HC2.out.size))
      have H4 := Lib.hid ((lines_of_own ho).1)
      clear hB ho
      go_wp2_with fail
      refine (C5.out _ (HP.out.below HB.out (Nat.le_refl _)) (HH.out.below HB.out (Nat.le_refl _))).mono ?_
      rintro e w5 ⟨rfl, hB⟩
      have HO0 := Lib.hid (HO0.out.below hB (Nat.le_refl _))
      have O1 := Lib.hid (own_below O1.out hB (Nat.le_refl _))
      have H2 := Lib.hid (H2.out.below hB (Nat.le_refl _))
      have O3 := Lib.hid (own_below O3.out hB (Nat.le_refl _))
      have H4 := Lib.hid (H4.out.below hB (Nat.le_refl _))
      have HB := Lib.hid (HB.out.trans (hB.mono HB.out.size))
      have HC := Lib.hid (HC.out.trans (hB.mono HC.out.size))
      have HC2 := Lib.hid (HC2.out.trans (hB.mono HC2.out.size))
      clear hB
      go_wp2_with fail
      refine (C6.out _ (HP.out.below HB.out (Nat.le_refl _)) (HH.out.below HB.out (Nat.le_refl _))).mono ?_
      rintro e w6 ⟨rfl, hB⟩
      have HO0 := Lib.hid (HO0.out.below hB (Nat.le_refl _))
      have O1 := Lib.hid (own_below O1.out hB (Nat.le_refl _))
      have H2 := Lib.hid (H2.out.below hB (Nat.le_refl _))
      have O3 := Lib.hid (own_below O3.out hB (Nat.le_refl _))
      have H4 := Lib.hid (H4.out.below hB (Nat.le_refl _))
      have HB := Lib.hid (HB.out.trans (hB.mono HB.out.size))
      have HC := Lib.hid (HC.out.trans (hB.mono HC.out.size))
      have HC2 := Lib.hid (HC2.out.trans (hB.mono HC2.out.size))
      clear hB
      go_wp2_with fail
      refine (S1.out _ _ _ _ _  (lines_of_own O1.out).1 H2.out).mono ?_
      rintro e w7 ⟨rfl, hB⟩
      have HO0 := Lib.hid (HO0.out.below hB (Nat.le_refl _))
      have O1 := Lib.hid (own_below O1.out hB (Nat.le_refl _))
      have H2 := Lib.hid (H2.out.below hB (Nat.le_refl _))
      have O3 := Lib.hid (own_below O3.out hB (Nat.le_refl _))
      have H4 := Lib.hid (H4.out.below hB (Nat.le_refl _))
      have HB := Lib.hid (HB.out.trans (hB.mono HB.out.size))
      have HC := Lib.hid (HC.out.trans (hB.mono HC.out.size))
      have HC2 := Lib.hid (HC2.out.trans (hB.mono HC2.out.size))
      clear hB
      go_wp2_with fail
      refine (S2.out _ _ _ _ _  (lines_of_own O3.out).1 H4.out).mono ?_
      rintro e w8 ⟨rfl, hB⟩
      clear H2
      have HO0 := Lib.hid (HO0.out.below hB (Nat.le_refl _))
      have O1 := Lib.hid (own_below O1.out hB (Nat.le_refl _))
      have O3 := Lib.hid (own_below O3.out hB (Nat.le_refl _))
      have H4 := Lib.hid (H4.out.below hB (Nat.le_refl _))
      have HB := Lib.hid (HB.out.trans (hB.mono HB.out.size))
      have HC := Lib.hid (HC.out.trans (hB.mono HC.out.size))
      have HC2 := Lib.hid (HC2.out.trans (hB.mono HC2.out.size))
      clear hB
      generalize lc q = cs1 at O1
      generalize lc r = cs3 at O3
      generalize q.length = n1 at *
      generalize r.length = n3 at *
      have hwc := HB.out.size
      have hg2 : w2.heap.size ≤ w8.heap.size := HC2.out.size
      go_wp2_with fail
      go_loopw [16] (fun s16 wr => ∃ (k : Nat) (cs1 cs3 : List Value), k ≤ n1 ∧ s16 = .int .i64 k ∧ wr.ownsRow wc.heap.size 33 4 (.slice a1 n1 c1) n1 cs1 ∧ wr.ownsRow w2.heap.size 33 4 (.slice a3 n3 c3) n3 cs3 ∧ Below wc.heap.size wc wr ∧ w2.heap.size ≤ wr.heap.size) (fun s16 _ => n1 - (intOf s16).toNat)
      case atStart => exact ⟨0, cs1, cs3, Nat.zero_le _, rfl, O1.out, O3.out, HC.out, hg2⟩
      case round =>
        clear O1 O3 HC hg2
        obtain ⟨k, cs1, cs3, hk, rfl, hO1, hO3, hB, hsz⟩ := hrel
        by_cases hlt : k < n1
        · obtain ⟨gb, rfl⟩ := own_form hO1 (by omega)
          have hgb := hg1 gb rfl
          obtain ⟨v0, hv0⟩ := get_of_lt (show k * 4 < cs1.length by have := hO1.1; omega)
          have m1 := own_cell hO1 hv0
          have m2 := own_free hO1 (k * 4)
          have HO2 := Lib.hid (own_setCell hO1 (k * 4) (.int .i64 (-1)))
          have HO3 := Lib.hid (own_offH hO3 (Off.setCell gb wr (k * 4) (.int .i64 (-1))) hgb)
          have HB2 := Lib.hid (hB.setCell (p := ⟨gb, k * 4, none⟩) (own_base' hO1) (.int .i64 (-1)))
          have HSZ := Lib.hid (show w2.heap.size ≤ (wr.setCell ⟨gb, k * 4, none⟩ (.int .i64 (-1))).heap.size from Nat.le_trans hsz (Off.setCell gb wr (k * 4) (.int .i64 (-1))).size)
          clear hO1 hO3 hB hv0 hsz
          go_wp2_with fail
          go_roundw
          case rel => exact ⟨k + 1, _, _, by omega, by go_num, HO2.out, HO3.out, HB2.out, HSZ.out⟩
          case measure => simp [intOf]; omega
        · obtain rfl : k = n1 := by omega
          have O3 := Lib.hid hO3
          have HC := Lib.hid hB
          have hg2 := hsz
          clear hO1 hO3 hB hsz
          go_wp2_with fail
          go_loopw [17] (fun s17 wx => ∃ (j : Nat) (cs3 : List Value), j ≤ n3 ∧ s17 = .int .i64 j ∧ wx.ownsRow w2.heap.size 33 4 (.slice a3 n3 c3) n3 cs3 ∧ Below wc.heap.size wc wx) (fun s17 _ => n3 - (intOf s17).toNat)
          case atStart => exact ⟨0, cs3, Nat.zero_le _, rfl, O3.out, HC.out⟩
          case round =>
            clear O3 HC
            obtain ⟨j, cs3, hj, rfl, hO3, hB⟩ := hrel
            by_cases hlj : j < n3
            · obtain ⟨gb, rfl⟩ := own_form hO3 (by omega)
              obtain ⟨v0, hv0⟩ := get_of_lt (show j * 4 < cs3.length by have := hO3.1; omega)
              have m1 := own_cell hO3 hv0
              have m2 := own_free hO3 (j * 4)
              have HO3 := Lib.hid (own_setCell hO3 (j * 4) (.int .i64 (-1)))
              have HB2 := Lib.hid (hB.setCell (p := ⟨gb, j * 4, none⟩) (by show wc.heap.size ≤ gb; have := own_base' hO3; have := HCW.out; omega) (.int .i64 (-1)))
              clear hO3 hB hv0
              go_wp2_with fail
              go_roundw
              case rel => exact ⟨j + 1, _, by omega, by go_num, HO3.out, HB2.out⟩
              case measure => simp [intOf]; omega
            · obtain rfl : j = n3 := by omega
              have HC := Lib.hid hB
              have HB := Lib.hid (HB0.out.trans (hB.mono HB0.out.size))
              clear hO3 hB
              go_wp2_with fail
              refine (S3.out _ _ _ _ _ (HOW.out.below HC.out (Nat.le_refl _)) (HP.out.below HB.out (Nat.le_refl _))).mono ?_
              rintro e w9 ⟨rfl, hB⟩
              have HB := Lib.hid (HB.out.trans (hB.mono HB.out.size))
              clear hB
              go_wp2_with fail
              refine (HK.out _).mono ?_
              rintro e w10 ⟨rfl, hB⟩
              have HB := Lib.hid (HB.out.trans (hB.mono HB.out.size))
              clear hB
              go_wp2_with fail
              go_ret
              exact ⟨rfl, HB.out⟩
  · rw [hl] at HL
    clear hp hh hc hc1 hcg hml hl 
    go_enter Try.func3, Try.ntmps3
    go_wp2_with fail
    refine (HL.out _ HH.out).mono ?_
    rintro e w0 ⟨rfl, rfl⟩
    go_wp2_with fail
    refine (HK.out _ ).mono ?_
    rintro e w1 ⟨rfl, hB⟩
    have HB := Lib.hid hB
    clear hB
    go_wp2_with fail
    go_ret
    exact ⟨rfl, HB.out⟩

end Go.Proofs.Ytikblaebfpdngaa
