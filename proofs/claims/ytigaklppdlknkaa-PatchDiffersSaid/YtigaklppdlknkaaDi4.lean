/- Diff of both sides (patches): contracts. -/
import Derived.Test.YtigaklppdlknkaaPtZ
import Derived.Test.YtigaklppdlknkaaRefB
set_option linter.unusedVariables false
set_option linter.unusedSimpArgs false
namespace Go.Proofs.Ytigaklppdlknkaa
open Go.RowKit Tinker

theorem eqL_comm (l m : L) : eqL l m = eqL m l := by
  rw [Bool.eq_iff_iff, eqL_iff, eqL_iff]
  exact ⟨fun h => h.symm, fun h => h.symm⟩
theorem dfC_1 {ps qs : List L} (h : fe (vp ps) (vp qs) ≠ 0) : dfC ps qs = fe (vp ps) (vp qs) ∧ dfR ps qs = [] := by
  have : dfC ps qs = fe (vp ps) (vp qs) := by unfold dfC; rw [if_neg h]
  exact ⟨this, by unfold dfR; rw [this, if_neg h]⟩
theorem dfC_2 {ps qs : List L} (h : fe (vp ps) (vp qs) = 0) (hl : ps.length ≠ qs.length) : dfC ps qs = 9 ∧ dfR ps qs = [] := by
  have : dfC ps qs = 9 := by unfold dfC; rw [if_pos h, if_neg hl]
  exact ⟨this, by unfold dfR; rw [this, if_neg (by decide)]⟩
theorem dfC_3 {ps qs : List L} (h : fe (vp ps) (vp qs) = 0) (hl : ps.length = qs.length) (h4 : 4 < (dfL ps qs).length) : dfC ps qs = 3 ∧ dfR ps qs = [] := by
  have : dfC ps qs = 3 := by unfold dfC; rw [if_pos h, if_pos hl, if_pos h4]
  exact ⟨this, by unfold dfR; rw [this, if_neg (by decide)]⟩
theorem dfC_0 {ps qs : List L} (h : fe (vp ps) (vp qs) = 0) (hl : ps.length = qs.length) (h4 : ¬ 4 < (dfL ps qs).length) : dfC ps qs = 0 ∧ dfR ps qs = dfL ps qs := by
  have : dfC ps qs = 0 := by unfold dfC; rw [if_pos h, if_pos hl, if_neg h4]
  exact ⟨this, by unfold dfR; rw [this, if_pos rfl]⟩

set_option maxRecDepth 100000 in
set_option maxHeartbeats 2000000 in
theorem pDiff_any (a g : Option Addr) (ca cg : Nat) (ps qs : List L) (w : World) (hp : LinesAt w a ps) (hq : LinesAt w g qs) (hm : ps.length ≤ 1000) (hn : qs.length ≤ 1000) :
    Calls Try.prog 29 #[.slice a ps.length ca, .slice g qs.length cg] w (GivesEditsE (dfR ps qs) (dfC ps qs) w) := by
  have H1 := Lib.hid (fun w hp => validate_any a ca ps w hp)
  have H2 := Lib.hid (fun w hq => validate_any g cg qs w hq)
  have HF := Lib.hid (fun (W : World) => firstError_at W.heap.size (W.alloc (.cells #[.int .i64 (vp ps), .int .i64 (vp qs)] 26)) (vp ps) (vp qs) (ints_two _ _ _ _))
  by_cases hz : fe (vp ps) (vp qs) = 0
  · have h8 := (vp_ok (fe_0 hz).2).1
    by_cases hl : ps.length = qs.length
    · have HD := Lib.hid (fun w h h' => pdiff_any a g ca cg ps qs w h h' hl h8)
      have hdl : (dfL ps qs).length ≤ 8 := Nat.le_trans (dfTo_len ps qs qs.length) h8
      have hnn : ((ps.length : Int) != (qs.length : Int)) = false := by rw [hl]; simp
      by_cases h4 : 4 < (dfL ps qs).length
      · obtain ⟨e1, e2⟩ := dfC_3 hz hl h4
        rw [e1, e2]
        rw [hz] at HF
        have h5 : (4 : Int) < ((dfL ps qs).length : Int) := by omega
        clear e1 e2 hz hl h4 h8
        generalize hc1 : vp ps = c1 at HF H1
        generalize hc2 : vp qs = c2 at HF H2
        clear hc1 hc2
        generalize dfL ps qs = R at HD h5 hdl
        go_enter Try.func29, Try.ntmps29
        go_wp2_with fail
        refine (H1.out _ hp).mono ?_
        rintro e w1 ⟨rfl, hB⟩
        have HB := Lib.hid hB
        clear hB
        go_wp2_with fail
        refine (H2.out _ (hq.below HB.out (Nat.le_refl _))).mono ?_
        rintro e w2 ⟨rfl, hB⟩
        have HB2 := Lib.hid (HB.out.trans (hB.mono HB.out.size))
        clear hB
        go_wp2_with fail
        refine (HF.out _).mono ?_
        rintro e w3 ⟨rfl, hw3⟩
        have hB3 := HB2.out.alloc HB2.out.size (.cells #[.int .i64 c1, .int .i64 c2] 26)
        rw [hw3] at hB3
        have HB3 := Lib.hid hB3
        clear hB3 hw3 HB HB2
        go_wp2_with fail
        refine (HD.out _ (hp.below HB3.out (Nat.le_refl _)) (hq.below HB3.out (Nat.le_refl _))).mono ?_
        rintro e w4 ⟨v1, v2, rfl, ho, hB4⟩
        have HB4 := Lib.hid (HB3.out.trans (hB4.mono HB3.out.size))
        clear ho hB4
        go_wp2_with fail
        go_ret2
        exact givesEditsE_nil HB4.out
      · obtain ⟨e1, e2⟩ := dfC_0 hz hl h4
        rw [e1, e2]
        rw [hz] at HF
        have h5 : ¬ (4 : Int) < ((dfL ps qs).length : Int) := by omega
        clear e1 e2 hz hl h4 h8
        generalize hc1 : vp ps = c1 at HF H1
        generalize hc2 : vp qs = c2 at HF H2
        clear hc1 hc2
        generalize dfL ps qs = R at HD h5 hdl ⊢
        go_enter Try.func29, Try.ntmps29
        go_wp2_with fail
        refine (H1.out _ hp).mono ?_
        rintro e w1 ⟨rfl, hB⟩
        have HB := Lib.hid hB
        clear hB
        go_wp2_with fail
        refine (H2.out _ (hq.below HB.out (Nat.le_refl _))).mono ?_
        rintro e w2 ⟨rfl, hB⟩
        have HB2 := Lib.hid (HB.out.trans (hB.mono HB.out.size))
        clear hB
        go_wp2_with fail
        refine (HF.out _).mono ?_
        rintro e w3 ⟨rfl, hw3⟩
        have hB3 := HB2.out.alloc HB2.out.size (.cells #[.int .i64 c1, .int .i64 c2] 26)
        rw [hw3] at hB3
        have HB3 := Lib.hid hB3
        clear hB3 hw3 HB HB2
        go_wp2_with fail
        refine (HD.out _ (hp.below HB3.out (Nat.le_refl _)) (hq.below HB3.out (Nat.le_refl _))).mono ?_
        intro e w4 hG
        obtain ⟨v1, v2, rfl, ho, hB4⟩ := hG.wide HB3.out
        have HO := Lib.hid ho
        have HB4 := Lib.hid hB4
        clear hG ho hB4
        go_wp2_with fail
        go_ret2
        exact ⟨v1, v2, rfl, HO.out, HB4.out⟩
    · obtain ⟨e1, e2⟩ := dfC_2 hz hl
      rw [e1, e2]
      rw [hz] at HF
      have hne : ((ps.length : Int) != (qs.length : Int)) = true := bne_iff_ne.2 (by omega)
      clear e1 e2 hz hl h8
      generalize hc1 : vp ps = c1 at HF H1
      generalize hc2 : vp qs = c2 at HF H2
      clear hc1 hc2
      go_enter Try.func29, Try.ntmps29
      go_wp2_with fail
      refine (H1.out _ hp).mono ?_
      rintro e w1 ⟨rfl, hB⟩
      have HB := Lib.hid hB
      clear hB
      go_wp2_with fail
      refine (H2.out _ (hq.below HB.out (Nat.le_refl _))).mono ?_
      rintro e w2 ⟨rfl, hB⟩
      have HB2 := Lib.hid (HB.out.trans (hB.mono HB.out.size))
      clear hB
      go_wp2_with fail
      refine (HF.out _).mono ?_
      rintro e w3 ⟨rfl, hw3⟩
      have hB3 := HB2.out.alloc HB2.out.size (.cells #[.int .i64 c1, .int .i64 c2] 26)
      rw [hw3] at hB3
      have HB3 := Lib.hid hB3
      clear hB3 hw3 HB HB2
      go_wp2_with fail
      go_ret2
      exact givesEditsE_nil HB3.out
  · obtain ⟨e1, e2⟩ := dfC_1 hz
    rw [e1, e2]
    generalize fe (vp ps) (vp qs) = c at HF hz ⊢
    have hz1 : (c != 0) = true := by simpa using hz
    have hz2 : (c == 0) = false := by simpa using hz
    clear e1 e2 hz
    generalize hc1 : vp ps = c1 at HF H1
    generalize hc2 : vp qs = c2 at HF H2
    clear hc1 hc2
    go_enter Try.func29, Try.ntmps29
    go_wp2_with fail
    refine (H1.out _ hp).mono ?_
    rintro e w1 ⟨rfl, hB⟩
    have HB := Lib.hid hB
    clear hB
    go_wp2_with fail
    refine (H2.out _ (hq.below HB.out (Nat.le_refl _))).mono ?_
    rintro e w2 ⟨rfl, hB⟩
    have HB2 := Lib.hid (HB.out.trans (hB.mono HB.out.size))
    clear hB
    go_wp2_with fail
    refine (HF.out _).mono ?_
    rintro e w3 ⟨rfl, hw3⟩
    have hB3 := HB2.out.alloc HB2.out.size (.cells #[.int .i64 c1, .int .i64 c2] 26)
    rw [hw3] at hB3
    have HB3 := Lib.hid hB3
    clear hB3 hw3 HB HB2
    go_wp2_with fail
    go_ret2
    exact givesEditsE_nil HB3.out

set_option maxRecDepth 100000 in
set_option maxHeartbeats 4000000 in
theorem rDiff_any (a g : Option Addr) (ca cg : Nat) (ps qs : List L) (w : World) (hp : LinesAt w a ps) (hq : LinesAt w g qs) (hm : ps.length ≤ 1000) (hn : qs.length ≤ 1000) :
    Calls Try.prog 30 #[.slice a ps.length ca, .slice g qs.length cg] w (GivesEditsE (dfR ps qs) (dfC ps qs) w) := by
  obtain ⟨i0, hi, hz0, hz1, hz2⟩ := info_parts info_edit
  have H1 := Lib.hid (fun w hp => rValidate_any a ca ps w hp)
  have H2 := Lib.hid (fun w hq => rValidate_any g cg qs w hq)
  by_cases z1 : vp ps = 0
  · by_cases z2 : vp qs = 0
    · have hz : fe (vp ps) (vp qs) = 0 := by rw [z1, z2]; rfl
      have h8 := (vp_ok z2).1
      rw [z1] at H1
      rw [z2] at H2
      by_cases hl : ps.length = qs.length
      · have HL := Lib.hid hl
        have hnn : ((ps.length : Int) != (qs.length : Int)) = false := by rw [hl]; simp
        have hdl8 : (dfL ps qs).length ≤ 8 := Nat.le_trans (dfTo_len ps qs qs.length) h8
        have hp8 : ps.length ≤ 8 := by omega
        have HCASE := Lib.hid (show (4 < (dfL ps qs).length ∧ dfC ps qs = 3 ∧ dfR ps qs = []) ∨ (¬ 4 < (dfL ps qs).length ∧ dfC ps qs = 0 ∧ dfR ps qs = dfL ps qs) by
          by_cases h4 : 4 < (dfL ps qs).length
          · exact .inl ⟨h4, dfC_3 hz hl h4⟩
          · exact .inr ⟨h4, dfC_0 hz hl h4⟩)
        generalize dfC ps qs = c at HCASE ⊢
        generalize dfR ps qs = R at HCASE ⊢
        clear z1 z2 hz hl h8
        go_enter Try.func30, Try.ntmps30
        go_wp2_with fail
        refine (H1.out _ hp).mono ?_
        rintro e w1 ⟨rfl, hB⟩
        have HB := Lib.hid hB
        clear hB
        go_wp2_with fail
        refine (H2.out _ (hq.below HB.out (Nat.le_refl _))).mono ?_
        rintro e w2 ⟨rfl, hB⟩
        have HB2 := Lib.hid (HB.out.trans (hB.mono HB.out.size))
        clear hB HB
        go_wp2_with fail
        go_loopw [7, 8] (fun s7 s8 wr => ∃ k : Nat, k ≤ ps.length ∧ s8 = .int .i64 k ∧ wr.ownsRow w.heap.size 96 5 s7 (dfTo ps qs k).length (ec (dfTo ps qs k)) ∧ Below w.heap.size w wr) (fun _ s8 _ => ps.length - (intOf s8).toNat)
        case atStart => exact ⟨0, Nat.zero_le _, rfl, World.ownsRow_nil _ _ _ _, HB2.out⟩
        case round =>
          clear HB2
          obtain ⟨k, hk, rfl, hO, hB⟩ := hrel
          have hdl := dfTo_len ps qs k
          by_cases hlt : k < ps.length
          · obtain ⟨b2, off2, m, rfl, hlb2, hm1, d0, d1, d2, d3⟩ := (hp.below hB (Nat.le_refl _)).at_ hlt
            have hkq : k < qs.length := by rw [← HL.out]; exact hlt
            obtain ⟨b, off, l, rfl, hlb, hl1, c0, c1, c2, c3⟩ := (hq.below hB (Nat.le_refl _)).at_ hkq
            have hkq2 : (k : Int) < (qs.length : Int) := by omega
            obtain ⟨va, vc, rfl⟩ := own_slice hO
            have HO := Lib.hid hO
            have HB := Lib.hid hB
            cases he : eqL l m
            · have HS := Lib.hid (dfTo_yes hm1 hl1 he)
              have HNE := Lib.hid (ne_facts (l := m) (m := l) (by rw [eqL_comm]; exact he))
              have HC := Lib.hid (show wr.cell? ⟨b, off + k * 4, none⟩ = some (.int .i64 l.op) ∧ wr.cell? ⟨b, off + k * 4 + 1, none⟩ = some (.int .i64 l.to) ∧ wr.cell? ⟨b, off + k * 4 + 2, none⟩ = some (.int .i64 l.a) ∧ wr.cell? ⟨b, off + k * 4 + 3, none⟩ = some (.int .i64 l.b) from ⟨c0, c1, c2, c3⟩)
              clear hl1 hm1 hO hB hp hq he
              go_upto_region 13 with fail
              go_cut [38] (fun s38 wx => s38 = .bool true ∧ Below wr.heap.size wr wx)
              case first =>
                rcases HNE.out with h1 | ⟨h1, h2⟩ | ⟨h1, h2, h3⟩ | ⟨h1, h2, h3, h4⟩
                all_goals go_quiet (fail)
                all_goals go_wp2_with fail
                all_goals go_meet
                all_goals exact ⟨rfl, rfl, rfl, rfl, Nat.le_refl _, fun _ _ => rfl⟩
              case rest =>
                obtain ⟨rfl, hbd⟩ := hcut
                have HB2 := Lib.hid (HB.out.trans (hbd.mono HB.out.size))
                have HO2 := Lib.hid (own_below HO.out hbd (Nat.le_refl _))
                obtain ⟨y0, y1, y2, y3⟩ := HC.out
                have x0 := (hbd.cell (p := ⟨b, _, none⟩) hlb).trans y0
                have x1 := (hbd.cell (p := ⟨b, _, none⟩) hlb).trans y1
                have x2 := (hbd.cell (p := ⟨b, _, none⟩) hlb).trans y2
                have x3 := (hbd.cell (p := ⟨b, _, none⟩) hlb).trans y3
                clear hbd y0 y1 y2 y3 c0 c1 c2 c3 d0 d1 d2 d3 HC HB HO
                go_wp2_with (at_builtin; (refine wpList_append_own _ rfl (.tmp 39) (.tmp 46) 33 rfl w.heap.size 96 i0 (.agg #[.int .i64 0, .int .i64 0, .int .i64 0, .int .i64 0, .int .i64 0]) 5 40 Try.underlying33 hi hz0 hz1 hz2 rfl (by decide) _ (dfTo ps qs k).length (ec (dfTo ps qs k)) rfl (own_below HO2.out ((Below.refl _ _).alloc (Nat.le_refl _) _) (Nat.le_refl _)) _ 1 1 (ec [⟨(k : Int), l⟩]) rfl rfl ?c2 (ec_one _) ?c4 ?c5 ?c6 ?_))
                case c2 => exact cells_newE _ ⟨(k : Int), l⟩
                case c4 => unfold maxLen; omega
                case c5 => omega
                case c6 => have := HB2.out.size; simp at this ⊢; omega
                intro v3 w3 hown3 hgrow3 _
                have HB3 := Lib.hid ((HB2.out.alloc HB2.out.size (.cells #[.int .i64 (k : Int), .int .i64 l.op, .int .i64 l.to, .int .i64 l.a, .int .i64 l.b] 96)).grown hgrow3 (by have := HB2.out.size; simp at this ⊢; omega) (fun q hq => (HO2.out.lt q hq).1))
                have HO3 := Lib.hid (show w3.ownsRow w.heap.size 96 5 v3 (dfTo ps qs (k + 1)).length (ec (dfTo ps qs (k + 1))) by rw [HS.out, ec_append, List.length_append, List.length_singleton]; exact hown3)
                clear hown3 hgrow3 x0 x1 x2 x3
                go_wp2_with fail
                go_roundw
                case rel => exact ⟨k + 1, by omega, by go_num, HO3.out, HB3.out⟩
                case measure => simp [intOf]; omega
            · have HS := Lib.hid (dfTo_no hm1 hl1 he)
              obtain rfl := eqL_iff.1 he
              clear hl1 hm1 hO hB hp hq he
              go_wp2_with fail
              go_quiet (fail)
              go_wp2_with fail
              go_roundw
              case rel => exact ⟨k + 1, by omega, by go_num, by rw [HS.out]; exact own_below HO.out ⟨rfl, rfl, rfl, Nat.le_refl _, fun _ _ => rfl⟩ (Nat.le_refl _), HB.out.trans ⟨rfl, rfl, rfl, Nat.le_refl _, fun _ _ => rfl⟩⟩
              case measure => simp [intOf]; omega
          · obtain rfl : k = ps.length := by omega
            rw [HL.out] at hO
            have HO := Lib.hid (show wr.ownsRow w.heap.size 96 5 _ (dfL ps qs).length (ec (dfL ps qs)) from hO)
            have HB := Lib.hid hB
            clear hO hB
            rcases HCASE.out with ⟨h4, hc, hR⟩ | ⟨h4, hc, hR⟩
            · have h5 : (4 : Int) < ((dfL ps qs).length : Int) := by omega
              have HC := Lib.hid (And.intro hc hR)
              clear h4 hc hR HCASE
              obtain ⟨va, vc, rfl⟩ := own_slice HO.out
              generalize dfL ps qs = D at HO h5 hdl8
              go_wp2_with fail
              go_ret2
              rw [HC.out.1, HC.out.2]
              exact givesEditsE_nil HB.out
            · have h5 : ¬ (4 : Int) < ((dfL ps qs).length : Int) := by omega
              have HC := Lib.hid (And.intro hc hR)
              clear h4 hc hR HCASE
              obtain ⟨va, vc, rfl⟩ := own_slice HO.out
              generalize dfL ps qs = D at HO h5 hdl8 HC
              go_wp2_with fail
              go_ret2
              rw [HC.out.1, HC.out.2]
              exact ⟨va, vc, rfl, HO.out, HB.out⟩
      · obtain ⟨e1, e2⟩ := dfC_2 hz hl
        rw [e1, e2]
        have hne : ((ps.length : Int) != (qs.length : Int)) = true := bne_iff_ne.2 (by omega)
        clear e1 e2 hz hl h8 z1 z2
        go_enter Try.func30, Try.ntmps30
        go_wp2_with fail
        refine (H1.out _ hp).mono ?_
        rintro e w1 ⟨rfl, hB⟩
        have HB := Lib.hid hB
        clear hB
        go_wp2_with fail
        refine (H2.out _ (hq.below HB.out (Nat.le_refl _))).mono ?_
        rintro e w2 ⟨rfl, hB⟩
        have HB2 := Lib.hid (HB.out.trans (hB.mono HB.out.size))
        clear hB HB
        go_wp2_with fail
        go_ret2
        exact givesEditsE_nil HB2.out
    · obtain ⟨e1, e2⟩ := dfC_1 (ps := ps) (qs := qs) (by rw [z1]; exact z2)
      rw [e1, e2]
      rw [z1] at H1 ⊢
      rw [show fe 0 (vp qs) = vp qs from rfl]
      generalize vp qs = c at H2 z2 ⊢
      have hz1' : (c != 0) = true := by simpa using z2
      have hz2' : (c == 0) = false := by simpa using z2
      clear e1 e2 z1 z2
      go_enter Try.func30, Try.ntmps30
      go_wp2_with fail
      refine (H1.out _ hp).mono ?_
      rintro e w1 ⟨rfl, hB⟩
      have HB := Lib.hid hB
      clear hB
      go_wp2_with fail
      refine (H2.out _ (hq.below HB.out (Nat.le_refl _))).mono ?_
      rintro e w2 ⟨rfl, hB⟩
      have HB2 := Lib.hid (HB.out.trans (hB.mono HB.out.size))
      clear hB HB
      go_wp2_with fail
      go_ret2
      exact givesEditsE_nil HB2.out
  · have hf : fe (vp ps) (vp qs) = vp ps := by unfold fe; rw [if_neg z1]
    obtain ⟨e1, e2⟩ := dfC_1 (ps := ps) (qs := qs) (by rw [hf]; exact z1)
    rw [e1, e2, hf]
    generalize vp ps = c at H1 z1 ⊢
    have hz1' : (c != 0) = true := by simpa using z1
    have hz2' : (c == 0) = false := by simpa using z1
    clear e1 e2 z1 hf
    go_enter Try.func30, Try.ntmps30
    go_wp2_with fail
    refine (H1.out _ hp).mono ?_
    rintro e w1 ⟨rfl, hB⟩
    have HB := Lib.hid hB
    clear hB
    go_wp2_with fail
    go_ret2
    exact givesEditsE_nil HB.out

end Go.Proofs.Ytigaklppdlknkaa
