/- Join of both: contracts. -/
import Derived.Test.YtmideaancmpafaaJoinA
import Derived.Test.YtmideaancmpafaaPutA
set_option linter.unusedVariables false
set_option linter.unusedSimpArgs false
namespace Go.Proofs.Ytmideaancmpafaa
open Go.RowKit Tinker

def joC (ps qs : List L) : Int := if fe (vp ps) (vp qs) = 0 then (if ps.length + qs.length ≤ 8 then 0 else 3) else fe (vp ps) (vp qs)
def joP (ps qs : List L) : List L := if joC ps qs = 0 then ps ++ qs else []
theorem joP_yes {ps qs : List L} (h : joC ps qs = 0) : joP ps qs = ps ++ qs := by unfold joP; rw [if_pos h]
theorem joP_no {ps qs : List L} (h : joC ps qs ≠ 0) : joP ps qs = [] := by unfold joP; rw [if_neg h]
theorem joC_ok {ps qs : List L} (h : joC ps qs = 0) : vp ps = 0 ∧ vp qs = 0 ∧ ps.length + qs.length ≤ 8 := by
  unfold joC at h
  split at h
  · rename_i h1
    split at h
    · unfold fe at h1
      split at h1
      · exact ⟨by assumption, h1, by assumption⟩
      · exact absurd h1 (by assumption)
    · cases h
  · exact absurd h (by assumption)
theorem joP_vp {ps qs : List L} (h : joC ps qs = 0) : vp (joP ps qs) = 0 := by
  obtain ⟨h1, h2, h3⟩ := joC_ok h
  rw [joP_yes h]
  refine vp_ok' (by simpa using h3) fun l hl => ?_
  rcases List.mem_append.1 hl with h4 | h4
  · exact (vp_ok h1).2 l h4
  · exact (vp_ok h2).2 l h4
theorem joP_len (ps qs : List L) : (joP ps qs).length ≤ ps.length + qs.length := by unfold joP; split <;> simp

set_option maxRecDepth 100000 in
set_option maxHeartbeats 1000000 in
theorem join_any (a b : Option Addr) (ca cb : Nat) (ps qs : List L) (w : World) (hp : LinesAt w a ps) (hc : a = none → ca = 0) (hq : LinesAt w b qs) (hd : b = none → cb = 0) (hm : ps.length ≤ 1000) (hm2 : qs.length ≤ 1000) :
    Calls Try.prog 55 #[.slice a ps.length ca, .slice b qs.length cb] w (GivesLinesE (joP ps qs) (joC ps qs) w) := by
  have HP := Lib.hid (validate_any a ca ps w hp)
  have HQ := Lib.hid (fun w hq => validate_any b cb qs w hq)
  by_cases hz : fe (vp ps) (vp qs) = 0
  · have HZ := Lib.hid hz
    by_cases h8 : ps.length + qs.length ≤ 8
    · have HE := Lib.hid (show joC ps qs = 0 by unfold joC; rw [if_pos hz, if_pos h8])
      have HJ := Lib.hid (joP_yes HE.out)
      rw [HJ.out, HE.out]
      have hn8 : ¬ (8 : Int) < (ps.length : Int) + (qs.length : Int) := by omega
      have hd8 : decide ((8 : Int) < (ps.length : Int) + (qs.length : Int)) = false := by simpa using hn8
      clear hz HE HJ
      go_enter Try.func55, Try.ntmps55
      go_wp2_with fail
      refine HP.out.mono ?_
      rintro e w1 ⟨rfl, hB1⟩
      go_wp2_with fail
      refine (HQ.out _ (hq.below hB1 (Nat.le_refl _))).mono ?_
      rintro e w2 ⟨rfl, hB2⟩
      have hB := hB1.trans (hB2.mono hB1.size)
      clear hB1 hB2
      go_wp2_with fail
      refine (firstError_two _ _ _ _).mono ?_
      rintro e w3 ⟨rfl, rfl⟩
      rw [HZ.out]
      have hB3 := hB.alloc hB.size (.cells #[.int .i64 (vp ps), .int .i64 (vp qs)] 27)
      clear hB
      go_wp2_with fail
      have hB4 := hB3.alloc hB3.size (.cells #[.slice a ps.length ca, .slice b qs.length cb] 22)
      refine (concat_any (w2.heap.size + 1) a b ca cb ps qs 22 _ (hp_new (by simp)) (hp.below hB4 (Nat.le_refl _)) hc (hq.below hB4 (Nat.le_refl _)) hd h8).mono ?_
      intro e w4 hG
      obtain ⟨a4, c4, rfl, hown, hB5⟩ := hG.wide hB4
      have HO := Lib.hid hown
      clear hown hG
      go_wp2_with fail
      go_ret2
      exact ⟨a4, c4, by rw [List.length_append]; rfl, HO.out, hB5⟩
    · have HE := Lib.hid (show joC ps qs = 3 by unfold joC; rw [if_pos hz, if_neg h8])
      have HJ := Lib.hid (joP_no (ps := ps) (qs := qs) (by rw [HE.out]; decide))
      rw [HJ.out, HE.out]
      have hn8 : (8 : Int) < (ps.length : Int) + (qs.length : Int) := by omega
      have hd8 : decide ((8 : Int) < (ps.length : Int) + (qs.length : Int)) = true := by simpa using hn8
      clear hz HE HJ h8
      go_enter Try.func55, Try.ntmps55
      go_wp2_with fail
      refine HP.out.mono ?_
      rintro e w1 ⟨rfl, hB1⟩
      go_wp2_with fail
      refine (HQ.out _ (hq.below hB1 (Nat.le_refl _))).mono ?_
      rintro e w2 ⟨rfl, hB2⟩
      have hB := hB1.trans (hB2.mono hB1.size)
      clear hB1 hB2
      go_wp2_with fail
      refine (firstError_two _ _ _ _).mono ?_
      rintro e w3 ⟨rfl, rfl⟩
      rw [HZ.out]
      have hB3 := hB.alloc hB.size (.cells #[.int .i64 (vp ps), .int .i64 (vp qs)] 27)
      clear hB
      go_wp2_with fail
      go_ret2
      exact givesLinesE_nil hB3
  · have HE := Lib.hid (show joC ps qs = fe (vp ps) (vp qs) by unfold joC; rw [if_neg hz])
    have HJ := Lib.hid (joP_no (ps := ps) (qs := qs) (by rw [HE.out]; exact hz))
    rw [HJ.out, HE.out]
    have hz1 : (fe (vp ps) (vp qs) != 0) = true := by simpa using hz
    have hz2 : (fe (vp ps) (vp qs) == 0) = false := by simpa using hz
    clear hz HE HJ
    go_enter Try.func55, Try.ntmps55
    go_wp2_with fail
    refine HP.out.mono ?_
    rintro e w1 ⟨rfl, hB1⟩
    go_wp2_with fail
    refine (HQ.out _ (hq.below hB1 (Nat.le_refl _))).mono ?_
    rintro e w2 ⟨rfl, hB2⟩
    have hB := hB1.trans (hB2.mono hB1.size)
    clear hB1 hB2
    go_wp2_with fail
    refine (firstError_two _ _ _ _).mono ?_
    rintro e w3 ⟨rfl, rfl⟩
    have hB3 := hB.alloc hB.size (.cells #[.int .i64 (vp ps), .int .i64 (vp qs)] 27)
    clear hB
    go_wp2_with fail
    go_ret2
    exact givesLinesE_nil hB3

set_option maxRecDepth 100000 in
set_option maxHeartbeats 1000000 in
theorem rJoin_any (a b : Option Addr) (ca cb : Nat) (ps qs : List L) (w : World) (hp : LinesAt w a ps) (hc : a = none → ca = 0) (hq : LinesAt w b qs) (hd : b = none → cb = 0) (hm : ps.length ≤ 1000) (hm2 : qs.length ≤ 1000) :
    Calls Try.prog 56 #[.slice a ps.length ca, .slice b qs.length cb] w (GivesLinesE (joP ps qs) (joC ps qs) w) := by
  obtain ⟨i0, hi, hz0, hz1, hz2⟩ := info_parts info_line
  have HP := Lib.hid (rValidate_any a ca ps w hp)
  have HQ := Lib.hid (fun w hq => rValidate_any b cb qs w hq)
  by_cases hz : vp ps = 0
  · have HZ := Lib.hid hz
    by_cases hy : vp qs = 0
    · have HY := Lib.hid hy
      have hf : fe (vp ps) (vp qs) = 0 := by unfold fe; rw [if_pos hz]; exact hy
      by_cases h8 : ps.length + qs.length ≤ 8
      · have HE := Lib.hid (show joC ps qs = 0 by unfold joC; rw [if_pos hf, if_pos h8])
        have HJ := Lib.hid (joP_yes HE.out)
        rw [HJ.out, HE.out]
        have hn8 : ¬ (8 : Int) < (ps.length : Int) + (qs.length : Int) := by omega
        have hd8 : decide ((8 : Int) < (ps.length : Int) + (qs.length : Int)) = false := by simpa using hn8
        have HC := Lib.hid (fun w hp => copy_any a ca ps w hp hc hm)
        clear hz hy hf HE HJ
        go_enter Try.func56, Try.ntmps56
        go_wp2_with fail
        refine HP.out.mono ?_
        rintro e w1 ⟨rfl, hB1⟩
        rw [HZ.out]
        go_wp2_with fail
        refine (HQ.out _ (hq.below hB1 (Nat.le_refl _))).mono ?_
        rintro e w2 ⟨rfl, hB2⟩
        rw [HY.out]
        have hB := hB1.trans (hB2.mono hB1.size)
        clear hB1 hB2
        go_wp2_with fail
        refine (HC.out _ (hp.below hB (Nat.le_refl _))).mono ?_
        intro e w3 hG
        obtain ⟨a3, c3, rfl, hown, hB3⟩ := hG.wide hB
        clear hG
        cases b with
        | none =>
          have HPS := Lib.hid hq.none
          have hq0 : qs.length = 0 := by rw [HPS.out]; rfl
          rw [hq0, hd rfl]
          have HO := Lib.hid hown
          clear hq0
          go_wp2_with (at_builtin; (refine wpList_append_own_none rfl (.tmp 25) (.tmp 26) 22 rfl w.heap.size 40 i0 4 Try.underlying22 hi _ _ _ rfl hown rfl ?_))
          clear hown
          go_wp2_with fail
          go_ret2
          rw [HPS.out, List.append_nil]
          exact ⟨a3, c3, rfl, HO.out, hB3⟩
        | some ad =>
          have HC2 := Lib.hid ((hq.below hB3 (Nat.le_refl _)).cells)
          go_wp2_with (at_builtin; (refine wpList_append_own _ rfl (.tmp 25) (.tmp 26) 22 rfl w.heap.size 40 i0 (.agg #[.int .i64 0, .int .i64 0, .int .i64 0, .int .i64 0]) 4 32 Try.underlying22 hi hz0 hz1 hz2 rfl (by decide) _ _ _ rfl hown ad qs.length cb (lc qs) rfl ?c1 ?c2 ?c3 ?c4 ?c5 ?c6 ?_))
          case c1 => exact lc_length qs
          case c2 => intro j u hu; exact HC2.out j u hu
          case c3 => exact lc_one qs
          case c4 => simp [maxLen]; omega
          case c5 => omega
          case c6 => exact hB3.size
          intro v' w4 hown1 hgrow _
          have hB4 : Below w.heap.size w w4 := hB3.grown hgrow hB3.size (own_base hown)
          obtain ⟨a4, c4, rfl⟩ := own_slice hown1
          have HO := Lib.hid hown1
          clear hown1 hgrow hown
          go_wp2_with fail
          go_ret2
          exact ⟨a4, c4, by rw [List.length_append]; rfl, by rw [lc_append, List.length_append]; exact HO.out, hB4⟩
      · have HE := Lib.hid (show joC ps qs = 3 by unfold joC; rw [if_pos hf, if_neg h8])
        have HJ := Lib.hid (joP_no (ps := ps) (qs := qs) (by rw [HE.out]; decide))
        rw [HJ.out, HE.out]
        have hn8 : (8 : Int) < (ps.length : Int) + (qs.length : Int) := by omega
        have hd8 : decide ((8 : Int) < (ps.length : Int) + (qs.length : Int)) = true := by simpa using hn8
        clear hz hy hf HE HJ h8
        go_enter Try.func56, Try.ntmps56
        go_wp2_with fail
        refine HP.out.mono ?_
        rintro e w1 ⟨rfl, hB1⟩
        rw [HZ.out]
        go_wp2_with fail
        refine (HQ.out _ (hq.below hB1 (Nat.le_refl _))).mono ?_
        rintro e w2 ⟨rfl, hB2⟩
        rw [HY.out]
        have hB := hB1.trans (hB2.mono hB1.size)
        clear hB1 hB2
        go_wp2_with fail
        go_ret2
        exact givesLinesE_nil hB
    · have HE := Lib.hid (show joC ps qs = vp qs by unfold joC fe; rw [if_pos hz, if_neg hy])
      have HJ := Lib.hid (joP_no (ps := ps) (qs := qs) (by rw [HE.out]; exact hy))
      rw [HJ.out, HE.out]
      generalize vp qs = c2 at HQ hy
      have hz1 : (c2 != 0) = true := by simpa using hy
      have hz2 : (c2 == 0) = false := by simpa using hy
      clear hz hy HE HJ
      go_enter Try.func56, Try.ntmps56
      go_wp2_with fail
      refine HP.out.mono ?_
      rintro e w1 ⟨rfl, hB1⟩
      rw [HZ.out]
      go_wp2_with fail
      refine (HQ.out _ (hq.below hB1 (Nat.le_refl _))).mono ?_
      rintro e w2 ⟨rfl, hB2⟩
      have hB := hB1.trans (hB2.mono hB1.size)
      clear hB1 hB2
      go_wp2_with fail
      go_ret2
      exact givesLinesE_nil hB
  · have HE := Lib.hid (show joC ps qs = vp ps by unfold joC fe; rw [if_neg hz, if_neg hz])
    have HJ := Lib.hid (joP_no (ps := ps) (qs := qs) (by rw [HE.out]; exact hz))
    rw [HJ.out, HE.out]
    generalize vp ps = c2 at HP hz
    have hz1 : (c2 != 0) = true := by simpa using hz
    have hz2 : (c2 == 0) = false := by simpa using hz
    clear hz HE HJ
    go_enter Try.func56, Try.ntmps56
    go_wp2_with fail
    refine HP.out.mono ?_
    rintro e w1 ⟨rfl, hB1⟩
    go_wp2_with fail
    go_ret2
    exact givesLinesE_nil hB1

end Go.Proofs.Ytmideaancmpafaa
