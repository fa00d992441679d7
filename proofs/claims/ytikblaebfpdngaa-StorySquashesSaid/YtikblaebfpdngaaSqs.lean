/- Several texts in one. -/
import Derived.Test.YtikblaebfpdngaaPtZ
import Derived.Test.YtikblaebfpdngaaRefB
import Derived.BigQuiet
import Derived.Test.YtikblaebfpdngaaHdE
import Derived.Test.YtikblaebfpdngaaLng7
import Derived.Test.YtikblaebfpdngaaSm4
/- Diff of both sides (patches): contracts. -/
set_option linter.unusedVariables false
set_option linter.unusedSimpArgs false
namespace Go.Proofs.Ytikblaebfpdngaa
open Go.RowKit Tinker

theorem eqL_comm (l m : L) : eqL l m = eqL m l := by
  rw [Bool.eq_iff_iff, eqL_iff, eqL_iff]
  exact ⟨fun h => h.symm, fun h => h.symm⟩
theorem dfC_1 {ps qs : List L} (h : fe (vp ps) (vp qs) ≠ 0) : dfC ps qs = fe (vp ps) (vp qs) ∧ dfR ps qs = [] := by
  have : dfC ps qs = fe (vp ps) (vp qs) := by unfold dfC; rw [if_neg h]
  exact ⟨this, by unfold dfR; rw [this, if_neg h]⟩
theorem dfC_2 {ps qs : List L} (h : fe (vp ps) (vp qs) = 0) (hl : ps.length ≠ qs.length) : dfC ps qs = 9 ∧ dfR ps qs = [] := by
  have : dfC ps qs = 9 := by unfold dfC; rw [if_pos h, if_neg hl]
  exact ⟨this, by unfold dfR; rw [this, if_neg (by decide)]⟩
theorem dfC_3 {ps qs : List L} (h : fe (vp ps) (vp qs) = 0) (hl : ps.length = qs.length) (h4 : 4 < (dfL ps qs).length) : dfC ps qs = 3 ∧ dfR ps qs = [] := by
  have : dfC ps qs = 3 := by unfold dfC; rw [if_pos h, if_pos hl, if_pos h4]
  exact ⟨this, by unfold dfR; rw [this, if_neg (by decide)]⟩
theorem dfC_0 {ps qs : List L} (h : fe (vp ps) (vp qs) = 0) (hl : ps.length = qs.length) (h4 : ¬ 4 < (dfL ps qs).length) : dfC ps qs = 0 ∧ dfR ps qs = dfL ps qs := by
  have : dfC ps qs = 0 := by unfold dfC; rw [if_pos h, if_pos hl, if_neg h4]
  exact ⟨this, by unfold dfR; rw [this, if_pos rfl]⟩

set_option maxRecDepth 100000 in
set_option maxHeartbeats 2000000 in
theorem pDiff_any (a g : Option Addr) (ca cg : Nat) (ps qs : List L) (w : World) (hp : LinesAt w a ps) (hq : LinesAt w g qs) (hm : ps.length ≤ 1000) (hn : qs.length ≤ 1000) :
    Calls Try.prog 60 #[.slice a ps.length ca, .slice g qs.length cg] w (GivesEditsE (dfR ps qs) (dfC ps qs) w) := by
  have H1 := Lib.hid (fun w hp => validate_any a ca ps w hp)
  have H2 := Lib.hid (fun w hq => validate_any g cg qs w hq)
  have HF := Lib.hid (fun (W : World) => firstError_at W.heap.size (W.alloc (.cells #[.int .i64 (vp ps), .int .i64 (vp qs)] 26)) (vp ps) (vp qs) (ints_two _ _ _ _))
  by_cases hz : fe (vp ps) (vp qs) = 0
  · have h8 := (vp_ok (fe_0 hz).2).1
    by_cases hl : ps.length = qs.length
    · have HD := Lib.hid (fun w h h' => pdiff_any a g ca cg ps qs w h h' hl h8)
      have hdl : (dfL ps qs).length ≤ 8 := Nat.le_trans (dfTo_len ps qs qs.length) h8
      have hnn : ((ps.length : Int) != (qs.length : Int)) = false := by rw [hl]; simp
      by_cases h4 : 4 < (dfL ps qs).length
      · obtain ⟨e1, e2⟩ := dfC_3 hz hl h4
        rw [e1, e2]
        rw [hz] at HF
        have h5 : (4 : Int) < ((dfL ps qs).length : Int) := by omega
        clear e1 e2 hz hl h4 h8
        generalize hc1 : vp ps = c1 at HF H1
        generalize hc2 : vp qs = c2 at HF H2
        clear hc1 hc2
        generalize dfL ps qs = R at HD h5 hdl
        go_enter Try.func60, Try.ntmps60
        go_wp2_with fail
        refine (H1.out _ hp).mono ?_
        rintro e w1 ⟨rfl, hB⟩
        have HB := Lib.hid hB
        clear hB
        go_wp2_with fail
        refine (H2.out _ (hq.below HB.out (Nat.le_refl _))).mono ?_
        rintro e w2 ⟨rfl, hB⟩
        have HB2 := Lib.hid (HB.out.trans (hB.mono HB.out.size))
        clear hB
        go_wp2_with fail
        refine (HF.out _).mono ?_
        rintro e w3 ⟨rfl, hw3⟩
        have hB3 := HB2.out.alloc HB2.out.size (.cells #[.int .i64 c1, .int .i64 c2] 26)
        rw [hw3] at hB3
        have HB3 := Lib.hid hB3
        clear hB3 hw3 HB HB2
        go_wp2_with fail
        refine (HD.out _ (hp.below HB3.out (Nat.le_refl _)) (hq.below HB3.out (Nat.le_refl _))).mono ?_
        rintro e w4 ⟨v1, v2, rfl, ho, hB4⟩
        have HB4 := Lib.hid (HB3.out.trans (hB4.mono HB3.out.size))
        clear ho hB4
        go_wp2_with fail
        go_ret2
        exact givesEditsE_nil HB4.out
      · obtain ⟨e1, e2⟩ := dfC_0 hz hl h4
        rw [e1, e2]
        rw [hz] at HF
        have h5 : ¬ (4 : Int) < ((dfL ps qs).length : Int) := by omega
        clear e1 e2 hz hl h4 h8
        generalize hc1 : vp ps = c1 at HF H1
        generalize hc2 : vp qs = c2 at HF H2
        clear hc1 hc2
        generalize dfL ps qs = R at HD h5 hdl ⊢
        go_enter Try.func60, Try.ntmps60
        go_wp2_with fail
        refine (H1.out _ hp).mono ?_
        rintro e w1 ⟨rfl, hB⟩
        have HB := Lib.hid hB
        clear hB
        go_wp2_with fail
        refine (H2.out _ (hq.below HB.out (Nat.le_refl _))).mono ?_
        rintro e w2 ⟨rfl, hB⟩
        have HB2 := Lib.hid (HB.out.trans (hB.mono HB.out.size))
        clear hB
        go_wp2_with fail
        refine (HF.out _).mono ?_
        rintro e w3 ⟨rfl, hw3⟩
        have hB3 := HB2.out.alloc HB2.out.size (.cells #[.int .i64 c1, .int .i64 c2] 26)
        rw [hw3] at hB3
        have HB3 := Lib.hid hB3
        clear hB3 hw3 HB HB2
        go_wp2_with fail
        refine (HD.out _ (hp.below HB3.out (Nat.le_refl _)) (hq.below HB3.out (Nat.le_refl _))).mono ?_
        intro e w4 hG
        obtain ⟨v1, v2, rfl, ho, hB4⟩ := hG.wide HB3.out
        have HO := Lib.hid ho
        have HB4 := Lib.hid hB4
        clear hG ho hB4
        go_wp2_with fail
        go_ret2
        exact ⟨v1, v2, rfl, HO.out, HB4.out⟩
    · obtain ⟨e1, e2⟩ := dfC_2 hz hl
      rw [e1, e2]
      rw [hz] at HF
      have hne : ((ps.length : Int) != (qs.length : Int)) = true := bne_iff_ne.2 (by omega)
      clear e1 e2 hz hl h8
      generalize hc1 : vp ps = c1 at HF H1
      generalize hc2 : vp qs = c2 at HF H2
      clear hc1 hc2
      go_enter Try.func60, Try.ntmps60
      go_wp2_with fail
      refine (H1.out _ hp).mono ?_
      rintro e w1 ⟨rfl, hB⟩
      have HB := Lib.hid hB
      clear hB
      go_wp2_with fail
      refine (H2.out _ (hq.below HB.out (Nat.le_refl _))).mono ?_
      rintro e w2 ⟨rfl, hB⟩
      have HB2 := Lib.hid (HB.out.trans (hB.mono HB.out.size))
      clear hB
      go_wp2_with fail
      refine (HF.out _).mono ?_
      rintro e w3 ⟨rfl, hw3⟩
      have hB3 := HB2.out.alloc HB2.out.size (.cells #[.int .i64 c1, .int .i64 c2] 26)
      rw [hw3] at hB3
      have HB3 := Lib.hid hB3
      clear hB3 hw3 HB HB2
      go_wp2_with fail
      go_ret2
      exact givesEditsE_nil HB3.out
  · obtain ⟨e1, e2⟩ := dfC_1 hz
    rw [e1, e2]
    generalize fe (vp ps) (vp qs) = c at HF hz ⊢
    have hz1 : (c != 0) = true := by simpa using hz
    have hz2 : (c == 0) = false := by simpa using hz
    clear e1 e2 hz
    generalize hc1 : vp ps = c1 at HF H1
    generalize hc2 : vp qs = c2 at HF H2
    clear hc1 hc2
    go_enter Try.func60, Try.ntmps60
    go_wp2_with fail
    refine (H1.out _ hp).mono ?_
    rintro e w1 ⟨rfl, hB⟩
    have HB := Lib.hid hB
    clear hB
    go_wp2_with fail
    refine (H2.out _ (hq.below HB.out (Nat.le_refl _))).mono ?_
    rintro e w2 ⟨rfl, hB⟩
    have HB2 := Lib.hid (HB.out.trans (hB.mono HB.out.size))
    clear hB
    go_wp2_with fail
    refine (HF.out _).mono ?_
    rintro e w3 ⟨rfl, hw3⟩
    have hB3 := HB2.out.alloc HB2.out.size (.cells #[.int .i64 c1, .int .i64 c2] 26)
    rw [hw3] at hB3
    have HB3 := Lib.hid hB3
    clear hB3 hw3 HB HB2
    go_wp2_with fail
    go_ret2
    exact givesEditsE_nil HB3.out

set_option maxRecDepth 100000 in
set_option maxHeartbeats 4000000 in
theorem rDiff_any (a g : Option Addr) (ca cg : Nat) (ps qs : List L) (w : World) (hp : LinesAt w a ps) (hq : LinesAt w g qs) (hm : ps.length ≤ 1000) (hn : qs.length ≤ 1000) :
    Calls Try.prog 61 #[.slice a ps.length ca, .slice g qs.length cg] w (GivesEditsE (dfR ps qs) (dfC ps qs) w) := by
  obtain ⟨i0, hi, hz0, hz1, hz2⟩ := info_parts info_edit
  have H1 := Lib.hid (fun w hp => rValidate_any a ca ps w hp)
  have H2 := Lib.hid (fun w hq => rValidate_any g cg qs w hq)
  by_cases z1 : vp ps = 0
  · by_cases z2 : vp qs = 0
    · have hz : fe (vp ps) (vp qs) = 0 := by rw [z1, z2]; rfl
      have h8 := (vp_ok z2).1
      rw [z1] at H1
      rw [z2] at H2
      by_cases hl : ps.length = qs.length
      · have HL := Lib.hid hl
        have hnn : ((ps.length : Int) != (qs.length : Int)) = false := by rw [hl]; simp
        have hdl8 : (dfL ps qs).length ≤ 8 := Nat.le_trans (dfTo_len ps qs qs.length) h8
        have hp8 : ps.length ≤ 8 := by omega
        have HCASE := Lib.hid (show (4 < (dfL ps qs).length ∧ dfC ps qs = 3 ∧ dfR ps qs = []) ∨ (¬ 4 < (dfL ps qs).length ∧ dfC ps qs = 0 ∧ dfR ps qs = dfL ps qs) by
          by_cases h4 : 4 < (dfL ps qs).length
          · exact .inl ⟨h4, dfC_3 hz hl h4⟩
          · exact .inr ⟨h4, dfC_0 hz hl h4⟩)
        generalize dfC ps qs = c at HCASE ⊢
        generalize dfR ps qs = R at HCASE ⊢
        clear z1 z2 hz hl h8
        go_enter Try.func61, Try.ntmps61
        go_wp2_with fail
        refine (H1.out _ hp).mono ?_
        rintro e w1 ⟨rfl, hB⟩
        have HB := Lib.hid hB
        clear hB
        go_wp2_with fail
        refine (H2.out _ (hq.below HB.out (Nat.le_refl _))).mono ?_
        rintro e w2 ⟨rfl, hB⟩
        have HB2 := Lib.hid (HB.out.trans (hB.mono HB.out.size))
        clear hB HB
        go_wp2_with fail
        go_loopw [7, 8] (fun s7 s8 wr => ∃ k : Nat, k ≤ ps.length ∧ s8 = .int .i64 k ∧ wr.ownsRow w.heap.size 50 5 s7 (dfTo ps qs k).length (ec (dfTo ps qs k)) ∧ Below w.heap.size w wr) (fun _ s8 _ => ps.length - (intOf s8).toNat)
        case atStart => exact ⟨0, Nat.zero_le _, rfl, World.ownsRow_nil _ _ _ _, HB2.out⟩
        case round =>
          clear HB2
          obtain ⟨k, hk, rfl, hO, hB⟩ := hrel
          have hdl := dfTo_len ps qs k
          by_cases hlt : k < ps.length
          · obtain ⟨b2, off2, m, rfl, hlb2, hm1, d0, d1, d2, d3⟩ := (hp.below hB (Nat.le_refl _)).at_ hlt
            have hkq : k < qs.length := by rw [← HL.out]; exact hlt
            obtain ⟨b, off, l, rfl, hlb, hl1, c0, c1, c2, c3⟩ := (hq.below hB (Nat.le_refl _)).at_ hkq
            have hkq2 : (k : Int) < (qs.length : Int) := by omega
            obtain ⟨va, vc, rfl⟩ := own_slice hO
            have HO := Lib.hid hO
            have HB := Lib.hid hB
            cases he : eqL l m
            · have HS := Lib.hid (dfTo_yes hm1 hl1 he)
              have HNE := Lib.hid (ne_facts (l := m) (m := l) (by rw [eqL_comm]; exact he))
              have HC := Lib.hid (show wr.cell? ⟨b, off + k * 4, none⟩ = some (.int .i64 l.op) ∧ wr.cell? ⟨b, off + k * 4 + 1, none⟩ = some (.int .i64 l.to) ∧ wr.cell? ⟨b, off + k * 4 + 2, none⟩ = some (.int .i64 l.a) ∧ wr.cell? ⟨b, off + k * 4 + 3, none⟩ = some (.int .i64 l.b) from ⟨c0, c1, c2, c3⟩)
              clear hl1 hm1 hO hB hp hq he
              go_upto_region 13 with fail
              go_cut [38] (fun s38 wx => s38 = .bool true ∧ Below wr.heap.size wr wx)
              case first =>
                rcases HNE.out with h1 | ⟨h1, h2⟩ | ⟨h1, h2, h3⟩ | ⟨h1, h2, h3, h4⟩
                all_goals go_quiet (fail)
                all_goals go_wp2_with fail
                all_goals go_meet
                all_goals exact ⟨rfl, rfl, rfl, rfl, Nat.le_refl _, fun _ _ => rfl⟩
              case rest =>
                obtain ⟨rfl, hbd⟩ := hcut
                have HB2 := Lib.hid (HB.out.trans (hbd.mono HB.out.size))
                have HO2 := Lib.hid (own_below HO.out hbd (Nat.le_refl _))
                obtain ⟨y0, y1, y2, y3⟩ := HC.out
                have x0 := (hbd.cell (p := ⟨b, _, none⟩) hlb).trans y0
                have x1 := (hbd.cell (p := ⟨b, _, none⟩) hlb).trans y1
                have x2 := (hbd.cell (p := ⟨b, _, none⟩) hlb).trans y2
                have x3 := (hbd.cell (p := ⟨b, _, none⟩) hlb).trans y3
                clear hbd y0 y1 y2 y3 c0 c1 c2 c3 d0 d1 d2 d3 HC HB HO
                go_wp2_with (at_builtin; (refine wpList_append_own _ rfl (.tmp 39) (.tmp 46) 46 rfl w.heap.size 50 i0 (.agg #[.int .i64 0, .int .i64 0, .int .i64 0, .int .i64 0, .int .i64 0]) 5 40 Try.underlying46 hi hz0 hz1 hz2 rfl (by decide) _ (dfTo ps qs k).length (ec (dfTo ps qs k)) rfl (own_below HO2.out ((Below.refl _ _).alloc (Nat.le_refl _) _) (Nat.le_refl _)) _ 1 1 (ec [⟨(k : Int), l⟩]) rfl rfl ?c2 (ec_one _) ?c4 ?c5 ?c6 ?_))
                case c2 => exact cells_newE _ ⟨(k : Int), l⟩
                case c4 => unfold maxLen; omega
                case c5 => omega
                case c6 => have := HB2.out.size; simp at this ⊢; omega
                intro v3 w3 hown3 hgrow3 _
                have HB3 := Lib.hid ((HB2.out.alloc HB2.out.size (.cells #[.int .i64 (k : Int), .int .i64 l.op, .int .i64 l.to, .int .i64 l.a, .int .i64 l.b] 50)).grown hgrow3 (by have := HB2.out.size; simp at this ⊢; omega) (fun q hq => (HO2.out.lt q hq).1))
                have HO3 := Lib.hid (show w3.ownsRow w.heap.size 50 5 v3 (dfTo ps qs (k + 1)).length (ec (dfTo ps qs (k + 1))) by rw [HS.out, ec_append, List.length_append, List.length_singleton]; exact hown3)
                clear hown3 hgrow3 x0 x1 x2 x3
                go_wp2_with fail
                go_roundw
                case rel => exact ⟨k + 1, by omega, by go_num, HO3.out, HB3.out⟩
                case measure => simp [intOf]; omega
            · have HS := Lib.hid (dfTo_no hm1 hl1 he)
              obtain rfl := eqL_iff.1 he
              clear hl1 hm1 hO hB hp hq he
              go_wp2_with fail
              go_quiet (fail)
              go_wp2_with fail
              go_roundw
              case rel => exact ⟨k + 1, by omega, by go_num, by rw [HS.out]; exact own_below HO.out ⟨rfl, rfl, rfl, Nat.le_refl _, fun _ _ => rfl⟩ (Nat.le_refl _), HB.out.trans ⟨rfl, rfl, rfl, Nat.le_refl _, fun _ _ => rfl⟩⟩
              case measure => simp [intOf]; omega
          · obtain rfl : k = ps.length := by omega
            rw [HL.out] at hO
            have HO := Lib.hid (show wr.ownsRow w.heap.size 50 5 _ (dfL ps qs).length (ec (dfL ps qs)) from hO)
            have HB := Lib.hid hB
            clear hO hB
            rcases HCASE.out with ⟨h4, hc, hR⟩ | ⟨h4, hc, hR⟩
            · have h5 : (4 : Int) < ((dfL ps qs).length : Int) := by omega
              have HC := Lib.hid (And.intro hc hR)
              clear h4 hc hR HCASE
              obtain ⟨va, vc, rfl⟩ := own_slice HO.out
              generalize dfL ps qs = D at HO h5 hdl8
              go_wp2_with fail
              go_ret2
              rw [HC.out.1, HC.out.2]
              exact givesEditsE_nil HB.out
            · have h5 : ¬ (4 : Int) < ((dfL ps qs).length : Int) := by omega
              have HC := Lib.hid (And.intro hc hR)
              clear h4 hc hR HCASE
              obtain ⟨va, vc, rfl⟩ := own_slice HO.out
              generalize dfL ps qs = D at HO h5 hdl8 HC
              go_wp2_with fail
              go_ret2
              rw [HC.out.1, HC.out.2]
              exact ⟨va, vc, rfl, HO.out, HB.out⟩
      · obtain ⟨e1, e2⟩ := dfC_2 hz hl
        rw [e1, e2]
        have hne : ((ps.length : Int) != (qs.length : Int)) = true := bne_iff_ne.2 (by omega)
        clear e1 e2 hz hl h8 z1 z2
        go_enter Try.func61, Try.ntmps61
        go_wp2_with fail
        refine (H1.out _ hp).mono ?_
        rintro e w1 ⟨rfl, hB⟩
        have HB := Lib.hid hB
        clear hB
        go_wp2_with fail
        refine (H2.out _ (hq.below HB.out (Nat.le_refl _))).mono ?_
        rintro e w2 ⟨rfl, hB⟩
        have HB2 := Lib.hid (HB.out.trans (hB.mono HB.out.size))
        clear hB HB
        go_wp2_with fail
        go_ret2
        exact givesEditsE_nil HB2.out
    · obtain ⟨e1, e2⟩ := dfC_1 (ps := ps) (qs := qs) (by rw [z1]; exact z2)
      rw [e1, e2]
      rw [z1] at H1 ⊢
      rw [show fe 0 (vp qs) = vp qs from rfl]
      generalize vp qs = c at H2 z2 ⊢
      have hz1' : (c != 0) = true := by simpa using z2
      have hz2' : (c == 0) = false := by simpa using z2
      clear e1 e2 z1 z2
      go_enter Try.func61, Try.ntmps61
      go_wp2_with fail
      refine (H1.out _ hp).mono ?_
      rintro e w1 ⟨rfl, hB⟩
      have HB := Lib.hid hB
      clear hB
      go_wp2_with fail
      refine (H2.out _ (hq.below HB.out (Nat.le_refl _))).mono ?_
      rintro e w2 ⟨rfl, hB⟩
      have HB2 := Lib.hid (HB.out.trans (hB.mono HB.out.size))
      clear hB HB
      go_wp2_with fail
      go_ret2
      exact givesEditsE_nil HB2.out
  · have hf : fe (vp ps) (vp qs) = vp ps := by unfold fe; rw [if_neg z1]
    obtain ⟨e1, e2⟩ := dfC_1 (ps := ps) (qs := qs) (by rw [hf]; exact z1)
    rw [e1, e2, hf]
    generalize vp ps = c at H1 z1 ⊢
    have hz1' : (c != 0) = true := by simpa using z1
    have hz2' : (c == 0) = false := by simpa using z1
    clear e1 e2 z1 hf
    go_enter Try.func61, Try.ntmps61
    go_wp2_with fail
    refine (H1.out _ hp).mono ?_
    rintro e w1 ⟨rfl, hB⟩
    have HB := Lib.hid hB
    clear hB
    go_wp2_with fail
    go_ret2
    exact givesEditsE_nil HB.out

end Go.Proofs.Ytikblaebfpdngaa

/- Two programs are the same: slices.Equal on lines, SameLines of the document: contracts. -/
set_option linter.unusedVariables false
set_option linter.unusedSimpArgs false
namespace Tinker
/-- Two programs are the same. -/
def eqP : List L → List L → Bool
  | [], [] => true
  | l :: r, m :: s => eqL l m && eqP r s
  | _, _ => false
theorem eqP_iff : ∀ {ps qs : List L}, eqP ps qs = true ↔ ps = qs
  | [], [] => by simp [eqP]
  | [], _ :: _ => by simp [eqP]
  | _ :: _, [] => by simp [eqP]
  | l :: r, m :: s => by
    show (eqL l m && eqP r s) = true ↔ _
    rw [Bool.and_eq_true, eqL_iff, eqP_iff]
    constructor
    · rintro ⟨rfl, rfl⟩; rfl
    · intro e; injection e with e1 e2; exact ⟨e1, e2⟩
theorem eqP_self (ps : List L) : eqP ps ps = true := eqP_iff.2 rfl
theorem eqP_false {ps qs : List L} (h : ps ≠ qs) : eqP ps qs = false := by
  cases e : eqP ps qs with
  | false => rfl
  | true => exact absurd (eqP_iff.1 e) h
theorem eqP_no {ps qs : List L} {k : Nat} {l m : L} (hl : ps[k]? = some l) (hm : qs[k]? = some m) (h : eqL l m = false) : eqP ps qs = false := by
  refine eqP_false fun e => ?_
  subst e
  rw [hl] at hm
  injection hm with hm
  rw [eqL_iff.2 hm] at h
  cases h
theorem eqP_yes {ps qs : List L} (hl : ps.length = qs.length) (h : ps.take ps.length = qs.take ps.length) : eqP ps qs = true := by
  refine eqP_iff.2 ?_
  rwa [List.take_length, hl, List.take_length] at h
theorem eqP_len {ps qs : List L} (hl : ps.length ≠ qs.length) : eqP ps qs = false := eqP_false fun e => hl (by rw [e])
end Tinker
namespace Go.Proofs.Ytikblaebfpdngaa
open Go.RowKit Tinker

set_option maxRecDepth 100000 in
set_option maxHeartbeats 2000000 in
theorem equalL_any (a b : Option Addr) (ca cb : Nat) (ps qs : List L) (w : World) (hp : LinesAt w a ps) (hq : LinesAt w b qs) (hm : ps.length ≤ 1000) (hn : qs.length ≤ 1000) :
    Calls Try.prog 62 #[.slice a ps.length ca, .slice b qs.length cb] w fun e w' => e = .returned (.bool (eqP ps qs)) ∧ Below w.heap.size w w' := by
  by_cases hlen : ps.length = qs.length
  · have HL := Lib.hid hlen
    rw [← hlen]
    have hnn : ((ps.length : Int) != (ps.length : Int)) = false := by simp
    have HP := Lib.hid hp
    have HQ := Lib.hid hq
    clear hlen hp hq
    go_enter Try.func62, Try.ntmps62
    go_wp2_with fail
    go_loopw [13] (fun s13 wr => ∃ k : Nat, k ≤ ps.length ∧ s13 = .int .i64 k ∧ ps.take k = qs.take k ∧ Below w.heap.size w wr) (fun s13 _ => ps.length - (intOf s13).toNat)
    case atStart => exact ⟨0, Nat.zero_le _, rfl, by simp, Below.refl _ _⟩
    case round =>
      obtain ⟨k, hk, rfl, hall, hB⟩ := hrel
      have HA := Lib.hid hall
      have HB := Lib.hid hB
      clear hall hB
      by_cases hlt : k < ps.length
      · obtain ⟨b1, o1, l, rfl, hl1, hx, c0, c1, c2, c3⟩ := (HP.out.below HB.out (Nat.le_refl _)).at_ hlt
        obtain ⟨b2, o2, m, rfl, hl2, hy, d0, d1, d2, d3⟩ := (HQ.out.below HB.out (Nat.le_refl _)).at_ (k := k) (by rw [← HL.out]; exact hlt)
        have j0 : (0 : Int) ≤ (k : Int) := by omega
        have j1 : (k : Int) < (ps.length : Int) := by omega
        cases he : eqL l m
        · have HN := Lib.hid (eqP_no hx hy he)
          have HNE := Lib.hid (ne_facts (l := l) (m := m) he)
          clear hx hy he
          go_upto_region 6 with fail
          go_cut [24] (fun s24 wx => s24 = .bool true ∧ Below wr.heap.size wr wx)
          case first =>
            rcases HNE.out with h1 | ⟨h1, h2⟩ | ⟨h1, h2, h3⟩ | ⟨h1, h2, h3, h4⟩
            all_goals go_quiet (fail)
            all_goals go_wp2_with fail
            all_goals go_meet
            all_goals exact ⟨rfl, rfl, rfl, rfl, Nat.le_refl _, fun _ _ => rfl⟩
          case rest =>
          obtain ⟨rfl, hbd⟩ := hcut
          have HB2 := Lib.hid (HB.out.trans (hbd.mono HB.out.size))
          clear hbd HB
          go_wp2_with fail
          go_ret
          exact ⟨ret_bool HN.out.symm, HB2.out⟩
        · have hlm : l = m := eqL_iff.1 he
          subst hlm
          have HX := Lib.hid hx
          have HY := Lib.hid hy
          clear hx hy he
          go_wp2_with fail
          go_quiet (fail)
          go_wp2_with fail
          go_roundw
          case rel => exact ⟨k + 1, by omega, by go_num, by rw [List.take_add_one, List.take_add_one, HX.out, HY.out, HA.out], HB.out.trans (Below.mono ⟨rfl, rfl, rfl, Nat.le_refl _, fun _ _ => rfl⟩ HB.out.size)⟩
          case measure => simp [intOf]; omega
      · obtain rfl : k = ps.length := by omega
        have HZ := Lib.hid (eqP_yes HL.out HA.out)
        go_wp2_with fail
        go_ret
        exact ⟨ret_bool HZ.out.symm, HB.out⟩
  · have HN := Lib.hid (eqP_len hlen)
    have hne1 : ((ps.length : Int) != (qs.length : Int)) = true := by rw [bne_iff_ne]; omega
    have hne2 : ((ps.length : Int) == (qs.length : Int)) = false := by rw [beq_eq_false_iff_ne]; omega
    have hne3 : ¬ ps.length = qs.length := hlen
    clear hlen hp hq
    go_enter Try.func62, Try.ntmps62
    go_wp2_with fail
    go_ret
    exact ⟨ret_bool HN.out.symm, Below.refl _ _⟩

set_option maxRecDepth 100000 in
set_option maxHeartbeats 2000000 in
theorem rSameL_any (a b : Option Addr) (ca cb : Nat) (ps qs : List L) (w : World) (hp : LinesAt w a ps) (hq : LinesAt w b qs) (hm : ps.length ≤ 1000) (hn : qs.length ≤ 1000) :
    Calls Try.prog 18 #[.slice a ps.length ca, .slice b qs.length cb] w fun e w' => e = .returned (.bool (eqP ps qs)) ∧ Below w.heap.size w w' := by
  by_cases hlen : ps.length = qs.length
  · have HL := Lib.hid hlen
    rw [← hlen]
    have hnn : ((ps.length : Int) != (ps.length : Int)) = false := by simp
    have HP := Lib.hid hp
    have HQ := Lib.hid hq
    clear hlen hp hq
    go_enter Try.func18, Try.ntmps18
    go_wp2_with fail
    go_loopw [5] (fun s5 wr => ∃ k : Nat, k ≤ ps.length ∧ s5 = .int .i64 k ∧ ps.take k = qs.take k ∧ Below w.heap.size w wr) (fun s5 _ => ps.length - (intOf s5).toNat)
    case atStart => exact ⟨0, Nat.zero_le _, rfl, by simp, Below.refl _ _⟩
    case round =>
      obtain ⟨k, hk, rfl, hall, hB⟩ := hrel
      have HA := Lib.hid hall
      have HB := Lib.hid hB
      clear hall hB
      by_cases hlt : k < ps.length
      · obtain ⟨b1, o1, l, rfl, hl1, hx, c0, c1, c2, c3⟩ := (HP.out.below HB.out (Nat.le_refl _)).at_ hlt
        obtain ⟨b2, o2, m, rfl, hl2, hy, d0, d1, d2, d3⟩ := (HQ.out.below HB.out (Nat.le_refl _)).at_ (k := k) (by rw [← HL.out]; exact hlt)
        have j0 : (0 : Int) ≤ (k : Int) := by omega
        have j1 : (k : Int) < (ps.length : Int) := by omega
        cases he : eqL l m
        · have HN := Lib.hid (eqP_no hx hy he)
          have HNE := Lib.hid (ne_facts (l := l) (m := m) he)
          clear hx hy he
          go_upto_region 6 with fail
          go_cut [25] (fun s25 wx => s25 = .bool true ∧ Below wr.heap.size wr wx)
          case first =>
            rcases HNE.out with h1 | ⟨h1, h2⟩ | ⟨h1, h2, h3⟩ | ⟨h1, h2, h3, h4⟩
            all_goals go_quiet (fail)
            all_goals go_wp2_with fail
            all_goals go_meet
            all_goals exact ⟨rfl, rfl, rfl, rfl, Nat.le_refl _, fun _ _ => rfl⟩
          case rest =>
          obtain ⟨rfl, hbd⟩ := hcut
          have HB2 := Lib.hid (HB.out.trans (hbd.mono HB.out.size))
          clear hbd HB
          go_wp2_with fail
          go_ret
          exact ⟨ret_bool HN.out.symm, HB2.out⟩
        · have hlm : l = m := eqL_iff.1 he
          subst hlm
          have HX := Lib.hid hx
          have HY := Lib.hid hy
          clear hx hy he
          go_wp2_with fail
          go_quiet (fail)
          go_wp2_with fail
          go_roundw
          case rel => exact ⟨k + 1, by omega, by go_num, by rw [List.take_add_one, List.take_add_one, HX.out, HY.out, HA.out], HB.out.trans (Below.mono ⟨rfl, rfl, rfl, Nat.le_refl _, fun _ _ => rfl⟩ HB.out.size)⟩
          case measure => simp [intOf]; omega
      · obtain rfl : k = ps.length := by omega
        have HZ := Lib.hid (eqP_yes HL.out HA.out)
        go_wp2_with fail
        go_ret
        exact ⟨ret_bool HZ.out.symm, HB.out⟩
  · have HN := Lib.hid (eqP_len hlen)
    have hne1 : ((ps.length : Int) != (qs.length : Int)) = true := by rw [bne_iff_ne]; omega
    have hne2 : ((ps.length : Int) == (qs.length : Int)) = false := by rw [beq_eq_false_iff_ne]; omega
    have hne3 : ¬ ps.length = qs.length := hlen
    clear hlen hp hq
    go_enter Try.func18, Try.ntmps18
    go_wp2_with fail
    go_ret
    exact ⟨ret_bool HN.out.symm, Below.refl _ _⟩

end Go.Proofs.Ytikblaebfpdngaa

/- Squash and Idle of both: contracts. -/
set_option linter.unusedVariables false
set_option linter.unusedSimpArgs false
namespace Tinker
/-- Squash: its error, its edits. -/
def sqC (ps : List L) (h : List (List E)) : Int := if vst ps h = 0 then dfC ps (plyF ps h) else vst ps h
def sqR (ps : List L) (h : List (List E)) : List E := if vst ps h = 0 then dfR ps (plyF ps h) else []
/-- A repair changes nothing. -/
def idB (ps : List L) (h : List (List E)) (n : Nat) : Bool := eqP (plyF ps (h.take n)) (plyF ps (h.take (n + 1)))
def idR (ps : List L) (h : List (List E)) : List Int := if vst ps h = 0 then ints ((List.range h.length).filter (idB ps h)) else []
end Tinker
namespace Go.Proofs.Ytikblaebfpdngaa
open Go.RowKit Tinker

set_option maxRecDepth 100000 in
set_option maxHeartbeats 2000000 in
theorem stSquash_any (a g : Option Addr) (ca cg : Nat) (ps : List L) (h : List (List E)) (w : World) (hp : LinesAt w a ps) (hh : RowsEAt w g h) (hpl : ps.length ≤ 1000) (hhl : h.length ≤ 1000) (hm : ∀ x ∈ h, x.length ≤ 1000) :
    Calls Try.prog 31 #[.slice a ps.length ca, .slice g h.length cg] w (GivesEditsE (sqR ps h) (sqC ps h) w) := by
  have HV := Lib.hid (stVal_any a g ca cg ps h w hp hh hpl hhl hm)
  by_cases hz : vst ps h = 0
  · have HZ := Lib.hid (okZ_of hz)
    have h8 := (vst_ok hz).2.1
    have HP := Lib.hid (fun w h1 h2 => hPlay_any g a cg ca h ps w h1 h2 HZ.out h8)
    have HD := Lib.hid (fun b cb w h1 h2 => pDiff_any a b ca cb ps (plyF ps h) w h1 h2 hpl (by rw [plyF_len]; exact hpl))
    have HR := Lib.hid (show sqR ps h = dfR ps (plyF ps h) by unfold sqR; exact if_pos hz)
    have HC := Lib.hid (show sqC ps h = dfC ps (plyF ps h) by unfold sqC; exact if_pos hz)
    have HH := Lib.hid hh
    have HL := Lib.hid hp
    rw [HR.out, HC.out]
    rw [hz] at HV
    clear hz hp hh hm HR HC
    generalize plyF ps h = q at *
    go_enter Try.func31, Try.ntmps31
    go_wp2_with fail
    refine HV.out.mono ?_
    rintro e w1 ⟨rfl, hB⟩
    have HB := Lib.hid hB
    clear hB
    go_wp2_with fail
    refine (HP.out _ (HH.out.below HB.out (Nat.le_refl _)) (HL.out.below HB.out (Nat.le_refl _))).mono ?_
    rintro e w2 ⟨a2, c2, rfl, ho, hB⟩
    have HB2 := Lib.hid (HB.out.trans (hB.mono HB.out.size))
    have HQ := Lib.hid (lines_of_own ho).1
    clear ho hB
    go_wp2_with fail
    refine (HD.out _ _ _ (HL.out.below HB2.out (Nat.le_refl _)) HQ.out).mono ?_
    rintro e w3 ⟨a3, c3, rfl, ho, hB⟩
    have HO := Lib.hid (own_mono ho HB2.out.size)
    have HB3 := Lib.hid (HB2.out.trans (hB.mono HB2.out.size))
    clear ho hB
    go_wp2_with fail
    go_ret2
    exact ⟨a3, c3, rfl, HO.out, HB3.out⟩
  · have HR := Lib.hid (show sqR ps h = _ by unfold sqR; exact if_neg hz)
    have HC := Lib.hid (show sqC ps h = vst ps h by unfold sqC; exact if_neg hz)
    have hz1 : (vst ps h != 0) = true := by simpa using hz
    rw [HR.out, HC.out]
    clear hz hp hh hm HR HC
    generalize vst ps h = c at HV hz1 ⊢
    go_enter Try.func31, Try.ntmps31
    go_wp2_with fail
    refine HV.out.mono ?_
    rintro e w1 ⟨rfl, hB⟩
    have HB := Lib.hid hB
    clear hB
    go_wp2_with fail
    go_ret2
    exact givesEditsE_nil HB.out

set_option maxRecDepth 100000 in
set_option maxHeartbeats 2000000 in
theorem rSquash_any (a g : Option Addr) (ca cg : Nat) (ps : List L) (h : List (List E)) (w : World) (hp : LinesAt w a ps) (hc : a = none → ca = 0) (hh : RowsEAt w g h) (hpl : ps.length ≤ 1000) (hhl : h.length ≤ 1000) (hm : ∀ x ∈ h, x.length ≤ 1000) :
    Calls Try.prog 32 #[.slice a ps.length ca, .slice g h.length cg] w (GivesEditsE (sqR ps h) (sqC ps h) w) := by
  have HV := Lib.hid (rHPlay_any a g ca cg ps h w hp hc hh hpl hhl hm)
  by_cases hz : vst ps h = 0
  · have HD := Lib.hid (fun b cb w h1 h2 => rDiff_any a b ca cb ps (plyF ps h) w h1 h2 hpl (by rw [plyF_len]; exact hpl))
    have HR := Lib.hid (show sqR ps h = dfR ps (plyF ps h) by unfold sqR; exact if_pos hz)
    have HC := Lib.hid (show sqC ps h = dfC ps (plyF ps h) by unfold sqC; exact if_pos hz)
    have HF := Lib.hid (show plyR ps h = plyF ps h by unfold plyR; rw [if_pos hz])
    have HL := Lib.hid hp
    rw [HR.out, HC.out]
    rw [hz, HF.out] at HV
    clear hz hp hh hm hc HR HC HF
    generalize plyF ps h = q at *
    go_enter Try.func32, Try.ntmps32
    go_wp2_with fail
    refine HV.out.mono ?_
    rintro e w1 ⟨a2, c2, rfl, ho, hB⟩
    have HB2 := Lib.hid hB
    have HQ := Lib.hid (lines_of_own ho).1
    clear ho hB
    go_wp2_with fail
    refine (HD.out _ _ _ (HL.out.below HB2.out (Nat.le_refl _)) HQ.out).mono ?_
    rintro e w3 ⟨a3, c3, rfl, ho, hB⟩
    have HO := Lib.hid (own_mono ho HB2.out.size)
    have HB3 := Lib.hid (HB2.out.trans (hB.mono HB2.out.size))
    clear ho hB
    go_wp2_with fail
    go_ret2
    exact ⟨a3, c3, rfl, HO.out, HB3.out⟩
  · have HR := Lib.hid (show sqR ps h = _ by unfold sqR; exact if_neg hz)
    have HC := Lib.hid (show sqC ps h = vst ps h by unfold sqC; exact if_neg hz)
    have hz1 : (vst ps h != 0) = true := by simpa using hz
    rw [HR.out, HC.out]
    clear hz hp hh hm HR HC
    generalize vst ps h = c at HV hz1 ⊢
    go_enter Try.func32, Try.ntmps32
    go_wp2_with fail
    refine HV.out.mono ?_
    rintro e w1 ⟨a2, c2, rfl, ho, hB⟩
    clear ho
    have HB := Lib.hid hB
    clear hB
    go_wp2_with fail
    go_ret2
    exact givesEditsE_nil HB.out

set_option maxRecDepth 100000 in
set_option maxHeartbeats 2000000 in
theorem stIdle_any (a g : Option Addr) (ca cg : Nat) (ps : List L) (h : List (List E)) (w : World) (hp : LinesAt w a ps) (hh : RowsEAt w g h) (hpl : ps.length ≤ 1000) (hhl : h.length ≤ 1000) (hm : ∀ x ∈ h, x.length ≤ 1000) (hcg : h.length ≤ cg) :
    Calls Try.prog 33 #[.slice a ps.length ca, .slice g h.length cg] w (GivesIntsE (idR ps h) (vst ps h) w) := by
  have HV := Lib.hid (stVal_any a g ca cg ps h w hp hh hpl hhl hm)
  by_cases hz : vst ps h = 0
  · have HZ := Lib.hid (okZ_of hz)
    have h8 := (vst_ok hz).2.1
    have HP := Lib.hid (fun n hn w h1 h2 => hAt_any g a cg ca h ps n w h1 h2 HZ.out h8 hcg hn)
    have HR := Lib.hid (show idR ps h = ints ((List.range h.length).filter (idB ps h)) by unfold idR; exact if_pos hz)
    have HH := Lib.hid hh
    have HL := Lib.hid hp
    have HE := Lib.hid (fun (n m : Nat) b cb d cd w h1 h2 => equalL_any b d cb cd (plyF ps (h.take n)) (plyF ps (h.take m)) w h1 h2 (by rw [plyF_len]; exact hpl) (by rw [plyF_len]; exact hpl))
    have hmb := mkBools h.length h8
    rw [HR.out, hz]
    rw [hz] at HV
    clear hz hp hh hm HR
    go_enter Try.func33, Try.ntmps33
    go_wp2_with fail
    refine HV.out.mono ?_
    rintro e w1 ⟨rfl, hB⟩
    have HB := Lib.hid hB
    clear hB
    obtain ⟨M, hM⟩ : ∃ M, M = w1.heap.size := ⟨_, rfl⟩
    have HM := Lib.hid hM
    have HG0 := Lib.hid (show (w1.alloc (.cells (bv (List.replicate h.length false)) 4)).heap[M]? = some (.cells (bv (bL (fun i => decide (i < 0) && idB ps h i) h.length)) 4 (0, 0)) from by
      have : bL (fun i => decide (i < 0) && idB ps h i) h.length = List.replicate h.length false := by rw [← bL_rep]; exact bL_eq fun x _ => by simp
      rw [this, hM]
      exact heap_new _ _)
    have HB0 := Lib.hid (HB.out.alloc HB.out.size (.cells (bv (List.replicate h.length false)) 4))
    have hMw : w.heap.size ≤ M := by rw [hM]; exact HB.out.size
    go_upto_region 6 with fail
    rw [← hM]
    generalize w1.alloc (.cells (bv (List.replicate h.length false)) 4) = w2 at *
    clear hmb hM HM HB HV
    go_wp2_with fail
    go_loopw [22] (fun s22 wr => ∃ k : Nat, k ≤ h.length ∧ s22 = .int .i64 k ∧ wr.heap[M]? = some (.cells (bv (bL (fun i => decide (i < k) && idB ps h i) h.length)) 4 (0, 0)) ∧ Below w.heap.size w wr) (fun s22 _ => h.length - (intOf s22).toNat)
    case atStart => exact ⟨0, Nat.zero_le _, rfl, HG0.out, HB0.out⟩
    case round =>
      clear HG0 HB0
      obtain ⟨k, hk, rfl, hG, hB⟩ := hrel
      have HG := Lib.hid hG
      have HB := Lib.hid hB
      clear hG hB
      by_cases hlt : k < h.length
      · have P1 := Lib.hid (HP.out k (by omega))
        have P2 := Lib.hid (HP.out (k + 1) (by omega))
        have E1 := Lib.hid (HE.out k (k + 1))
        have j0 : (0 : Int) ≤ (k : Int) := by omega
        have j1 : (k : Int) < (h.length : Int) := by omega
        have HI := Lib.hid (show eqP (plyF ps (h.take k)) (plyF ps (h.take (k + 1))) = idB ps h k from rfl)
        rw [HI.out] at E1
        generalize plyF ps (h.take k) = q1 at *
        generalize plyF ps (h.take (k + 1)) = q2 at *
        clear HP HE HI
        go_wp2_with fail
        refine (P1.out _ (HH.out.below HB.out (Nat.le_refl _)) (HL.out.below HB.out (Nat.le_refl _))).mono ?_
        rintro e w3 ⟨a3, c3, rfl, ho, hB⟩
        have H3 := Lib.hid (lines_of_own ho).1
        have HG := Lib.hid (hp_below HG.out hB (hp_lt HG.out))
        have HB := Lib.hid (HB.out.trans (hB.mono HB.out.size))
        clear ho hB
        go_wp2_with fail
        refine (P2.out _ (HH.out.below HB.out (Nat.le_refl _)) (HL.out.below HB.out (Nat.le_refl _))).mono ?_
        rintro e w4 ⟨a4, c4, rfl, ho, hB⟩
        have H4 := Lib.hid (lines_of_own ho).1
        have H3 := Lib.hid (H3.out.below hB (Nat.le_refl _))
        have HG := Lib.hid (hp_below HG.out hB (hp_lt HG.out))
        have HB := Lib.hid (HB.out.trans (hB.mono HB.out.size))
        clear ho hB
        go_wp2_with fail
        refine (E1.out _ _ _ _ _ H3.out H4.out).mono ?_
        rintro e w5 ⟨rfl, hB⟩
        have HG := Lib.hid (hp_below HG.out hB (hp_lt HG.out))
        have HB := Lib.hid (HB.out.trans (hB.mono HB.out.size))
        clear hB
        have b0 := hp_free HG.out k
        have b1 := hp_cell HG.out (bv_get _ k (by rw [bL_len]; exact hlt))
        have HG2 := Lib.hid (show (w5.setCell ⟨M, k, none⟩ (.bool (idB ps h k))).heap[M]? = some (.cells (bv (bL (fun i => decide (i < k + 1) && idB ps h i) h.length)) 4 (0, 0)) from by
          have q := hp_put HG.out k (.bool (idB ps h k))
          rw [bv_set, bL_put, show bL (fun i => if i = k then idB ps h k else decide (i < k) && idB ps h i) h.length = bL (fun i => decide (i < k + 1) && idB ps h i) h.length from bL_eq fun x _ => by
            by_cases hx : x = k
            · subst hx; simp
            · have : decide (x < k + 1) = decide (x < k) := by rw [decide_eq_decide]; omega
              simp [hx, this]] at q
          exact q)
        have HB2 := Lib.hid (HB.out.setCell (p := ⟨M, k, none⟩) hMw (.bool (idB ps h k)))
        clear HG HB
        go_wp2_with fail
        go_roundw
        case rel => exact ⟨k + 1, by omega, by go_num, HG2.out, HB2.out⟩
        case measure => simp [intOf]; omega
      · obtain rfl : k = h.length := by omega
        have hMl := hp_lt HG.out
        obtain ⟨bs, hbs⟩ : ∃ bs, bs = bL (fun i => decide (i < h.length) && idB ps h i) h.length := ⟨_, rfl⟩
        have hbl : bs.length = h.length := by rw [hbs, bL_len]
        have HPL := Lib.hid (show plc bs = ints ((List.range h.length).filter (idB ps h)) from plc_ints hbl fun i hi => by rw [hbs, bL_get _ hi]; simp [hi])
        have HGG := Lib.hid (show wr.heap[M]? = some (.cells (bv bs) 4 (0, 0)) from by rw [hbs]; exact HG.out)
        have HQ := Lib.hid (places_any M 0 h.length bs wr (bools8_at HGG.out) hMl (by omega))
        rw [HPL.out, hbl] at HQ
        clear hbs hbl HPL HG
        go_wp2_with fail
        refine HQ.out.mono ?_
        rintro e w3 ⟨a3, c3, rfl, ho, hB⟩
        have HO := Lib.hid (own_mono ho HB.out.size)
        have HB3 := Lib.hid (HB.out.trans (hB.mono HB.out.size))
        clear ho hB
        go_wp2_with fail
        go_ret2
        exact ⟨a3, c3, rfl, HO.out, HB3.out⟩
  · have HR := Lib.hid (show idR ps h = _ by unfold idR; exact if_neg hz)
    have HC := Lib.hid (show vst ps h = vst ps h by rfl)
    have hz1 : (vst ps h != 0) = true := by simpa using hz
    rw [HR.out, HC.out]
    clear hz hp hh hm HR HC
    generalize vst ps h = c at HV hz1 ⊢
    go_enter Try.func33, Try.ntmps33
    go_wp2_with fail
    refine HV.out.mono ?_
    rintro e w1 ⟨rfl, hB⟩
    have HB := Lib.hid hB
    clear hB
    go_wp2_with fail
    go_ret2
    exact givesIntsE_nil HB.out

set_option maxRecDepth 100000 in
set_option maxHeartbeats 2000000 in
theorem rIdle_any (a g : Option Addr) (ca cg : Nat) (ps : List L) (h : List (List E)) (w : World) (hp : LinesAt w a ps) (hc : a = none → ca = 0) (hh : RowsEAt w g h) (hpl : ps.length ≤ 1000) (hhl : h.length ≤ 1000) (hm : ∀ x ∈ h, x.length ≤ 1000) :
    Calls Try.prog 34 #[.slice a ps.length ca, .slice g h.length cg] w (GivesIntsE (idR ps h) (vst ps h) w) := by
  have HV := Lib.hid (rHval_any a g ca cg ps h w hp hh hpl hhl hm)
  by_cases hz : vst ps h = 0
  · obtain ⟨i0, hi, hz0, hz1, hz2⟩ := info_parts info_int
    have h8 := (vst_ok hz).2.1
    have hp8 := (vp_ok (vst_ok hz).1).1
    have HP := Lib.hid (fun m (hml : m ≤ h.length) v cv w h1 h2 h3 => by
      have h9 := rPlay_any a g v ca cg cv ps h (List.range m) w h1 hc h2 h3 hp8 (by omega) (by rw [List.length_range]; omega) (rok_of hz (fun n hn => by have := List.mem_range.1 hn; omega))
      rw [← plyF_take ps h hml, List.length_range] at h9
      exact h9)
    have HF := Lib.hid (fun (m : Nat) (hml : m ≤ h.length) w => by
      have h9 := rFirst_any m w (by omega)
      unfold GivesInts at h9
      rw [ints_len, List.length_range] at h9
      exact h9)
    have HR := Lib.hid (show idR ps h = ints ((List.range h.length).filter (idB ps h)) by unfold idR; exact if_pos hz)
    have HH := Lib.hid hh
    have HL := Lib.hid hp
    have HE := Lib.hid (fun (n m : Nat) b cb d cd w h1 h2 => rSameL_any b d cb cd (plyF ps (h.take n)) (plyF ps (h.take m)) w h1 h2 (by rw [plyF_len]; exact hpl) (by rw [plyF_len]; exact hpl))
    rw [HR.out, hz]
    rw [hz] at HV
    clear hz hp hh hm hc HR
    go_enter Try.func34, Try.ntmps34
    go_wp2_with fail
    refine HV.out.mono ?_
    rintro e w1 ⟨rfl, hB⟩
    have HB0 := Lib.hid hB
    clear hB
    go_wp2_with fail
    go_loopw [7, 8] (fun s7 s8 wr => ∃ k : Nat, k ≤ h.length ∧ s8 = .int .i64 k ∧ wr.ownsRow w.heap.size 3 1 s7 (ints ((List.range k).filter (idB ps h))).length ((ints ((List.range k).filter (idB ps h))).map (Value.int .i64)) ∧ Below w.heap.size w wr) (fun _ s8 _ => h.length - (intOf s8).toNat)
    case atStart => exact ⟨0, Nat.zero_le _, rfl, World.ownsRow_nil _ _ _ _, HB0.out⟩
    case round =>
      clear HB0
      obtain ⟨k, hk, rfl, hown, hB⟩ := hrel
      have HO := Lib.hid hown
      have HB := Lib.hid hB
      clear hown hB
      by_cases hlt : k < h.length
      · have P1 := Lib.hid (HP.out k (by omega))
        have P2 := Lib.hid (HP.out (k + 1) (by omega))
        have F1 := Lib.hid (HF.out k (by omega))
        have F2 := Lib.hid (HF.out (k + 1) (by omega))
        have E1 := Lib.hid (HE.out k (k + 1))
        have hlen := flt_len (idB ps h) k
        have HI := Lib.hid (show eqP (plyF ps (h.take k)) (plyF ps (h.take (k + 1))) = idB ps h k from rfl)
        rw [HI.out] at E1
        generalize plyF ps (h.take k) = q1 at *
        generalize plyF ps (h.take (k + 1)) = q2 at *
        clear HP HE HF HI
        go_wp2_with fail
        refine (F1.out _).mono ?_
        rintro e w2 ⟨a2, c2, rfl, ho, hB⟩
        have H2 := Lib.hid (ints_of_own ho).1
        have HO := Lib.hid (own_below HO.out hB (Nat.le_refl _))
        have HB := Lib.hid (HB.out.trans (hB.mono HB.out.size))
        clear ho hB
        go_wp2_with fail
        refine (P1.out _ _ _ (HL.out.below HB.out (Nat.le_refl _)) (HH.out.below HB.out (Nat.le_refl _)) H2.out).mono ?_
        rintro e w3 ⟨a3, c3, rfl, ho, hB⟩
        have H3 := Lib.hid (lines_of_own ho).1
        have HO := Lib.hid (own_below HO.out hB (Nat.le_refl _))
        have HB := Lib.hid (HB.out.trans (hB.mono HB.out.size))
        clear ho hB
        go_wp2_with fail
        refine (F2.out _).mono ?_
        rintro e w4 ⟨a4, c4, rfl, ho, hB⟩
        have H4 := Lib.hid (ints_of_own ho).1
        have H3 := Lib.hid (H3.out.below hB (Nat.le_refl _))
        have HO := Lib.hid (own_below HO.out hB (Nat.le_refl _))
        have HB := Lib.hid (HB.out.trans (hB.mono HB.out.size))
        clear ho hB
        go_wp2_with fail
        refine (P2.out _ _ _ (HL.out.below HB.out (Nat.le_refl _)) (HH.out.below HB.out (Nat.le_refl _)) H4.out).mono ?_
        rintro e w5 ⟨a5, c5, rfl, ho, hB⟩
        have H5 := Lib.hid (lines_of_own ho).1
        have H3 := Lib.hid (H3.out.below hB (Nat.le_refl _))
        have HO := Lib.hid (own_below HO.out hB (Nat.le_refl _))
        have HB := Lib.hid (HB.out.trans (hB.mono HB.out.size))
        clear ho hB
        go_wp2_with fail
        refine (E1.out _ _ _ _ _ H3.out H5.out).mono ?_
        rintro e w6 ⟨rfl, hB⟩
        have HO := Lib.hid (own_below HO.out hB (Nat.le_refl _))
        have HB := Lib.hid (HB.out.trans (hB.mono HB.out.size))
        clear hB
        cases hI : idB ps h k
        · have HN := Lib.hid (flt_no hI)
          clear hI
          go_wp2_with fail
          go_roundw
          case rel => exact ⟨k + 1, by omega, by go_num, by rw [HN.out]; exact HO.out, HB.out⟩
          case measure => simp [intOf]; omega
        · have HN := Lib.hid (flt_yes hI)
          clear hI
          go_wp2_with (at_builtin; refine wpList_append_own _ rfl (.tmp 33) (.tmp 35) 35 rfl w.heap.size 3 i0 (.int .i64 0) 1 8 Try.underlying35 hi hz0 hz1 hz2 rfl (by decide) _ _ _ rfl (HO.out.alloc _) ⟨w6.heap.size, 0, none⟩ 1 1 [.int .i64 k] rfl rfl ?c1 ?c2 ?c3 ?c4 ?c5 ?_)
          case c1 => exact cell_one_new _ _ _
          case c2 => simp [Value.oneCell']
          case c3 => unfold maxLen; omega
          case c4 => omega
          case c5 => have := HB.out.size; simp; omega
          intro v' w7 hown' hgrow _
          have hB1 : Below w.heap.size w w7 := (HB.out.alloc HB.out.size _).grown hgrow (by have := HB.out.size; simp; omega) (own_base HO.out)
          have e : (ints ((List.range k).filter (idB ps h))).map (Value.int .i64) ++ [.int .i64 k] = (ints ((List.range (k + 1)).filter (idB ps h))).map (Value.int .i64) := by rw [HN.out]; simp
          have e2 : (ints ((List.range k).filter (idB ps h))).length + 1 = (ints ((List.range (k + 1)).filter (idB ps h))).length := by rw [HN.out]; simp
          rw [e, e2] at hown'
          have HO3 := Lib.hid hown'
          have HB3 := Lib.hid hB1
          clear hown' hgrow e e2 hB1 HO HB
          go_wp2_with fail
          go_roundw
          case rel => exact ⟨k + 1, by omega, by go_num, HO3.out, HB3.out⟩
          case measure => simp [intOf]; omega
      · obtain rfl : k = h.length := by omega
        have hO9 := HO.out
        obtain ⟨av, cv, rfl⟩ := own_slice hO9
        clear hO9
        go_wp2_with fail
        go_ret2
        exact ⟨av, cv, rfl, HO.out, HB.out⟩
  · have HR := Lib.hid (show idR ps h = _ by unfold idR; exact if_neg hz)
    have HC := Lib.hid (show vst ps h = vst ps h by rfl)
    have hz1 : (vst ps h != 0) = true := by simpa using hz
    rw [HR.out, HC.out]
    clear hz hp hh hm HR HC
    generalize vst ps h = c at HV hz1 ⊢
    go_enter Try.func34, Try.ntmps34
    go_wp2_with fail
    refine HV.out.mono ?_
    rintro e w1 ⟨rfl, hB⟩
    have HB := Lib.hid hB
    clear hB
    go_wp2_with fail
    go_ret2
    exact givesIntsE_nil HB.out

end Go.Proofs.Ytikblaebfpdngaa

/- StorySquashes: the walk. -/
set_option linter.unusedVariables false
set_option linter.unusedSimpArgs false
namespace Go.Proofs.Ytikblaebfpdngaa
open Go.RowKit Tinker

theorem sqR_len (ps : List L) (h : List (List E)) (hpl : ps.length ≤ 1000) : (sqR ps h).length ≤ 1000 := by
  unfold sqR
  split
  · unfold dfR
    split
    · rename_i hd; have := (dfC_ok hd).2.2.2; omega
    · simp
  · simp
theorem idR_len (ps : List L) (h : List (List E)) : (idR ps h).length ≤ h.length := by
  unfold idR
  split
  · rw [ints_len]
    have := List.length_filter_le (idB ps h) (List.range h.length)
    rwa [List.length_range] at this
  · simp

set_option maxRecDepth 100000 in
set_option maxHeartbeats 8000000 in
theorem storySquashes_walk (a : Option Addr) (ca : Nat) (ps : List L) (g : Option Addr) (cg : Nat) (h : List (List E)) (w : World) (hp : LinesAt w a ps) (hc : a = none → ca = 0) (hh : RowsEAt w g h) (hc1 : g = none → cg = 0) (hcg : h.length ≤ cg) (hml : h.length ≤ maxLen) :
    Calls Try.prog 9 #[.slice a ps.length ca, .slice g h.length cg] w fun e w' => e = .returned (.bool true) ∧ Below w.heap.size w w' := by
  have HK := Lib.hid (fun w => sane7_true w)
  have HL := Lib.hid (fun w hh => long7_any a g ps.length ca cg h w hh hml)
  have HP := Lib.hid hp
  have HH := Lib.hid hh
  cases hl : lng7 ps.length h
  · obtain ⟨hpl0, hhl0, hm0⟩ := lng7_no hl
    have hpl : ps.length ≤ 1000 := by omega
    have hhl : h.length ≤ 1000 := by omega
    have hm : ∀ x ∈ h, x.length ≤ 1000 := fun x hx => by have := hm0 x hx; omega
    rw [hl] at HL
    have C1 := Lib.hid (fun w h1 h2 => stSquash_any a g ca cg ps h w h1 h2 hpl hhl hm)
    have C2 := Lib.hid (fun w h1 h2 => rSquash_any a g ca cg ps h w h1 hc h2 hpl hhl hm)
    have C3 := Lib.hid (fun w h1 h2 => stIdle_any a g ca cg ps h w h1 h2 hpl hhl hm hcg)
    have C4 := Lib.hid (fun w h1 h2 => rIdle_any a g ca cg ps h w h1 hc h2 hpl hhl hm)
    have hq1 := sqR_len ps h hpl
    have hq2 : (idR ps h).length ≤ 1000 := Nat.le_trans (idR_len ps h) hhl
    generalize sqR ps h = q1 at *
    generalize idR ps h = q2 at *
    generalize sqC ps h = v1 at *
    generalize vst ps h = v2 at *
    have e1 : (v1 == v1) = true := by simp
    have e2 : (v2 == v2) = true := by simp
    have S1 := Lib.hid (fun a' b' c' d' w h1 h2 => sameE_self q1.length a' b' c' d' q1 w rfl h1 h2 hq1)
    have S2 := Lib.hid (fun a' b' c' d' w h1 h2 => sameI4_self q2.length a' b' c' d' q2 w rfl h1 h2 hq2)
    clear hc hcg
    clear hp hh hc1 hml hl hm0
    go_enter Try.func9, Try.ntmps9
    go_wp2_with fail
    refine (HL.out _ HH.out).mono ?_
    rintro e w0 ⟨rfl, rfl⟩
    go_wp2_with fail
    refine (C1.out _ HP.out HH.out).mono ?_
    rintro e w1 ⟨a1, c1, rfl, ho, hB⟩
    have HB := Lib.hid hB
    have E1 := Lib.hid ((edits_of_own ho).1)
    clear hB ho
    go_wp2_with fail
    refine (C2.out _ (HP.out.below HB.out (Nat.le_refl _)) (HH.out.below HB.out (Nat.le_refl _))).mono ?_
    rintro e w2 ⟨a2, c2, rfl, ho, hB⟩
    have E1 := Lib.hid (E1.out.below hB (Nat.le_refl _))
    have HB := Lib.hid (HB.out.trans (hB.mono HB.out.size))
    have E2 := Lib.hid ((edits_of_own ho).1)
    clear hB ho
    go_wp2_with fail
    refine (C3.out _ (HP.out.below HB.out (Nat.le_refl _)) (HH.out.below HB.out (Nat.le_refl _))).mono ?_
    rintro e w3 ⟨a3, c3, rfl, ho, hB⟩
    have E1 := Lib.hid (E1.out.below hB (Nat.le_refl _))
    have E2 := Lib.hid (E2.out.below hB (Nat.le_refl _))
    have HB := Lib.hid (HB.out.trans (hB.mono HB.out.size))
    have E3 := Lib.hid ((ints_of_own ho).1)
    clear hB ho
    go_wp2_with fail
    refine (C4.out _ (HP.out.below HB.out (Nat.le_refl _)) (HH.out.below HB.out (Nat.le_refl _))).mono ?_
    rintro e w4 ⟨a4, c4, rfl, ho, hB⟩
    have E1 := Lib.hid (E1.out.below hB (Nat.le_refl _))
    have E2 := Lib.hid (E2.out.below hB (Nat.le_refl _))
    have E3 := Lib.hid (E3.out.below hB (Nat.le_refl _))
    have HB := Lib.hid (HB.out.trans (hB.mono HB.out.size))
    have E4 := Lib.hid ((ints_of_own ho).1)
    clear hB ho
    go_wp2_with fail
    refine (S1.out _ _ _ _ _  E1.out E2.out).mono ?_
    rintro e w5 ⟨rfl, hB⟩
    have E1 := Lib.hid (E1.out.below hB (Nat.le_refl _))
    have E2 := Lib.hid (E2.out.below hB (Nat.le_refl _))
    have E3 := Lib.hid (E3.out.below hB (Nat.le_refl _))
    have E4 := Lib.hid (E4.out.below hB (Nat.le_refl _))
    have HB := Lib.hid (HB.out.trans (hB.mono HB.out.size))
    clear hB
    go_wp2_with fail
    refine (S2.out _ _ _ _ _  E3.out E4.out).mono ?_
    rintro e w6 ⟨rfl, hB⟩
    have E1 := Lib.hid (E1.out.below hB (Nat.le_refl _))
    have E2 := Lib.hid (E2.out.below hB (Nat.le_refl _))
    have E3 := Lib.hid (E3.out.below hB (Nat.le_refl _))
    have E4 := Lib.hid (E4.out.below hB (Nat.le_refl _))
    have HB := Lib.hid (HB.out.trans (hB.mono HB.out.size))
    clear hB
    go_wp2_with fail
    refine (HK.out _ ).mono ?_
    rintro e w7 ⟨rfl, hB⟩
    have E1 := Lib.hid (E1.out.below hB (Nat.le_refl _))
    have E2 := Lib.hid (E2.out.below hB (Nat.le_refl _))
    have E3 := Lib.hid (E3.out.below hB (Nat.le_refl _))
    have E4 := Lib.hid (E4.out.below hB (Nat.le_refl _))
    have HB := Lib.hid (HB.out.trans (hB.mono HB.out.size))
    clear hB
    go_wp2_with fail
    go_ret
    exact ⟨rfl, HB.out⟩
  · rw [hl] at HL
    clear hp hh hc hc1 hcg hml hl 
    go_enter Try.func9, Try.ntmps9
    go_wp2_with fail
    refine (HL.out _ HH.out).mono ?_
    rintro e w0 ⟨rfl, rfl⟩
    go_wp2_with fail
    refine (HK.out _ ).mono ?_
    rintro e w1 ⟨rfl, hB⟩
    have HB := Lib.hid hB
    clear hB
    go_wp2_with fail
    go_ret
    exact ⟨rfl, HB.out⟩

end Go.Proofs.Ytikblaebfpdngaa
