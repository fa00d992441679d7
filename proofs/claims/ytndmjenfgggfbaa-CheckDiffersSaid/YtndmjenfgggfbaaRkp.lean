/- Several texts in one. -/
import Derived.Test.YtndmjenfgggfbaaStR
import Derived.Test.YtndmjenfgggfbaaStC
import Derived.Test.YtndmjenfgggfbaaGdB
import Derived.Test.YtndmjenfgggfbaaChkP
/- The document's bad states: contract. -/
set_option linter.unusedVariables false
set_option linter.unusedSimpArgs false
namespace Go.Proofs.Ytndmjenfgggfbaa
open Go.RowKit Tinker

/-- The bad states. -/
def bdS (ps : List L) (lo hi : List Int) (out mn mx : Int) : List (List Int) := (allS lo hi).filter fun s => !gdP ps out mn mx s
theorem take_more {α : Type} {xs : List α} {k : Nat} {x : α} (h : xs[k]? = some x) : xs.take (k + 1) = xs.take k ++ [x] := by
  rw [List.take_add_one, h]; rfl
theorem filt_yes {α : Type} {p : α → Bool} {xs : List α} {k : Nat} {x : α} (h : xs[k]? = some x) (hp : p x = true) : (xs.take (k + 1)).filter p = (xs.take k).filter p ++ [x] := by
  rw [take_more h, List.filter_append]; simp [hp]
theorem filt_no {α : Type} {p : α → Bool} {xs : List α} {k : Nat} {x : α} (h : xs[k]? = some x) (hp : p x = false) : (xs.take (k + 1)).filter p = (xs.take k).filter p := by
  rw [take_more h, List.filter_append]; simp [hp]
theorem filt_le {α : Type} (p : α → Bool) (xs : List α) (k : Nat) : ((xs.take k).filter p).length ≤ k :=
  Nat.le_trans (List.length_filter_le _ _) (by rw [List.length_take]; omega)
theorem mem_st {lo hi s : List Int} (hc : OkC lo hi) {k : Nat} (h : (allS lo hi)[k]? = some s) : inBx lo hi 4 s ∧ vs s = 0 :=
  have h1 := exTo_in lo hi 4 s (mem_of_get h)
  ⟨h1, inBx_vs hc h1⟩

set_option maxRecDepth 100000 in
set_option maxHeartbeats 2000000 in
theorem rBad_ok (a a1 b1 : Option Addr) (ca c1 c2 : Nat) (ps : List L) (lo hi : List Int) (out mn mx : Int) (hz : vpc ps lo hi out mn mx = 0) (w : World) (hp : LinesAt w a ps) (hl : IntsAt w a1 lo) (hh : IntsAt w b1 hi) :
    Calls Try.prog 98 #[.slice a ps.length ca, .agg #[.slice a1 lo.length c1, .slice b1 hi.length c2, .int .i64 out, .int .i64 mn, .int .i64 mx]] w (GivesRows (bdS ps lo hi out mn mx) w) := by
  obtain ⟨j0, hj, jz0, jz1, jz2⟩ := info_parts info_ints
  obtain ⟨hv, hcon⟩ := vpc_ok hz
  have HST := Lib.hid (fun W hl hh => rStates_ok a1 b1 c1 c2 lo hi out mn mx hcon W hl hh)
  obtain ⟨hcon2, hN⟩ := vcon_ok hcon
  have hc := okC_of hcon2
  obtain ⟨_, _, _, ho, _⟩ := isCon_ok hcon2
  have HMS := Lib.hid (fun (k : Nat) (s : List Int) (h : (allS lo hi)[k]? = some s) => show vr ps s = 0 by unfold vr fe; rw [if_pos hv]; exact (mem_st hc h).2)
  have hlen : (allS lo hi).length ≤ 400 := by
    have := exTo_len (lo := lo) (hi := hi) 4 (fun j hj => hc.le j hj)
    unfold allS; omega
  have HO := Lib.hid ho
  have hI := (boxC_new (a := a1) (b := b1) (n := lo.length) (m := hi.length) (ca := c1) (cb := c2) (out := out) (mn := mn) (mx := mx) w)
  have HI := Lib.hid hI
  have x0 := hI.c0
  have x1 := hI.c1
  have x2 := hI.c2
  have x3 := hI.c3
  have x4 := hI.c4
  have HP := Lib.hid hp
  have HL := Lib.hid hl
  have HH := Lib.hid hh
  unfold bdS
  generalize allS lo hi = ss at *
  clear hz hcon hv hcon2 hN hc ho hI hp hl hh
  go_enter Try.func98, Try.ntmps98
  go_wp2_with fail
  refine (HST.out _ (HL.out.below HI.out.below (Nat.le_refl _)) (HH.out.below HI.out.below (Nat.le_refl _))).mono ?_
  rintro e wl ⟨la, lc, rfl, hR, hB⟩
  have HIL := Lib.hid (HI.out.low hB)
  have HR := Lib.hid hR
  clear hR hB x0 x1 x2 x3 x4 HST HI
  go_wp2_with fail
  go_loopw [5, 7] (fun s5 s7 wr => ∃ (k : Nat) (xs : List Value), k ≤ ss.length ∧ s7 = .int .i64 k ∧ RowsV wl s5 ((ss.take k).filter fun s => !gdP ps out mn mx s) xs wr) (fun _ s7 _ => ss.length - (intOf s7).toNat)
  case atStart => exact ⟨0, [], Nat.zero_le _, rfl, by simpa using RowsV.nil (Below.refl wl.heap.size wl)⟩
  case round =>
    obtain ⟨k, xs, hk, rfl, hJ⟩ := hrel
    by_cases hlt : k < ss.length
    · obtain ⟨gb, go, s, a', c', rfl, hgb, hs, cg, hsi⟩ := HR.out.at_ hlt
      have HIR := Lib.hid (HIL.out.low hJ.below)
      have hzr := HMS.out k s hs
      have HE := Lib.hid (fun w hp hs => rMade_any a a' ca c' ps s out w hp hs hzr HO.out)
      have HW := Lib.hid (fun n w => rWithin2_any n mn mx w)
      have cg1 := (hJ.below.cell (p := ⟨gb, _, none⟩) hgb).trans cg
      have hgw := Nat.lt_of_lt_of_le hgb hJ.below.size
      have y2 := HIR.out.c2
      have y3 := HIR.out.c3
      have y4 := HIR.out.c4
      have hlx := hp_lt HIR.out.bl
      have HPR := Lib.hid (HP.out.below HIR.out.below (Nat.le_refl _))
      have HSR := Lib.hid (hsi.below hJ.below (Nat.le_refl _))
      have HSI := Lib.hid hsi
      have HGY := Lib.hid (fun h : (!gdP ps out mn mx s) = true => filt_yes (p := fun s => !gdP ps out mn mx s) hs h)
      have HGN := Lib.hid (fun h : (!gdP ps out mn mx s) = false => filt_no (p := fun s => !gdP ps out mn mx s) hs h)
      have hgd : gdP ps out mn mx s = btw (endP ps s out) mn mx := rfl
      have hfl := filt_le (fun s => !gdP ps out mn mx s) ss k
      rw [hgd] at HGY HGN
      generalize endP ps s out = V at HE HGY HGN
      have HJ := Lib.hid hJ
      clear hs hJ hzr hgd hsi cg
      go_upto_if 29 with fail
      go_cut [29] (fun s29 wx => s29 = .bool (!btw V mn mx) ∧ Below wr.heap.size wr wx)
      case first =>
        go_region_held3 (fun w' => w'.cell? ⟨gb, go + k, none⟩ = some (.slice a' s.length c') ∧ w'.cell? ⟨w.heap.size, 2, none⟩ = some (.int .i64 out) ∧ w'.cell? ⟨w.heap.size, 3, none⟩ = some (.int .i64 mn) ∧ w'.cell? ⟨w.heap.size, 4, none⟩ = some (.int .i64 mx)) (first | exact ⟨cg1, y2, y3, y4⟩ | exact ⟨(hBa.cell (p := ⟨gb, _, none⟩) hgw).trans cg1, (hBa.cell (p := ⟨w.heap.size, _, none⟩) hlx).trans y2, (hBa.cell (p := ⟨w.heap.size, _, none⟩) hlx).trans y3, (hBa.cell (p := ⟨w.heap.size, _, none⟩) hlx).trans y4⟩ | go_keep) (first | (go_at_call 65; refine (HE.out _ ?_ ?_).mono ?_; exact (HPR.out.below (Below.refl _ _).drew (Nat.le_refl _)); exact (HSR.out.below (Below.refl _ _).drew (Nat.le_refl _)); rintro e wa ⟨rfl, hBa⟩) | (go_at_call 91; refine (HW.out _ _).mono ?_; rintro e wb ⟨rfl, rfl⟩))
        all_goals go_wp2_with fail
        all_goals go_meet
        all_goals exact ⟨rfl, (Below.refl _ _).drew.trans hBa⟩
      case rest =>
        obtain ⟨rfl, hB2⟩ := hcut
        have HJ2 := Lib.hid (HJ.out.low hB2)
        have hcg := (hB2.cell (p := ⟨gb, _, none⟩) hgw).trans cg1
        have hgw2 := Nat.lt_of_lt_of_le hgw hB2.size
        clear HJ hB2 cg1 y2 y3 y4 hlx HIR HPR HSR
        cases hpv : (!btw V mn mx)
        · have HX := Lib.hid (HGN.out hpv)
          clear hpv
          go_wp2_with fail
          go_roundw
          case rel => exact ⟨k + 1, xs, by omega, by go_num, by rw [HX.out]; exact HJ2.out⟩
          case measure => simp [intOf]; omega
        · have HX := Lib.hid (HGY.out hpv)
          clear hpv
          have HAL := Lib.hid (HJ2.out.low ((Below.refl wc.heap.size wc).alloc (Nat.le_refl _) (.cells #[.slice a' s.length c'] 23)))
          have hws := HJ2.out.below.size
          go_wp2_with (at_builtin; (refine wpList_append_own_at _ rfl (.tmp 30) (.tmp 35) 40 rfl wl.heap.size 23 j0 (.slice none 0 0) 1 24 Try.underlying40 hj jz0 jz1 jz2 rfl (by decide) _ _ xs rfl HAL.out.own ⟨wc.heap.size, 0, none⟩ 1 1 [.slice a' s.length c'] rfl ?d1 ?d2 ?d3 ?d4 ?d5 ?d6 ?_))
          case d1 => rfl
          case d2 => exact cell_one_new _ _ _
          case d3 => simp [Value.oneCell']
          case d4 => unfold maxLen; omega
          case d5 => omega
          case d6 => simp; omega
          intro v3 w3 hown3 hgrow3 _ hat3
          have HP3 := Lib.hid (HAL.out.push (c := c') HSI.out hown3 hgrow3)
          clear hown3 hgrow3 hat3
          go_wp2_with fail
          go_roundw
          case rel => exact ⟨k + 1, _, by omega, by go_num, by rw [HX.out]; exact HP3.out⟩
          case measure => simp [intOf]; omega
    · obtain rfl : k = ss.length := by omega
      rw [List.take_of_length_le (Nat.le_refl _)] at hJ
      obtain ⟨a2, k2, rfl⟩ := own_slice hJ.own
      have hat := hJ.at_
      have HB := Lib.hid (HIL.out.low hJ.below).below
      have HAT := Lib.hid hat.1
      clear hJ hat
      go_wp2_with fail
      go_ret
      exact ⟨a2, k2, rfl, HAT.out, HB.out⟩

end Go.Proofs.Ytndmjenfgggfbaa

/- Contracts of the document: contracted, Keeps, Bad, First. -/
set_option linter.unusedVariables false
set_option linter.unusedSimpArgs false
namespace Go.Proofs.Ytndmjenfgggfbaa
open Go.RowKit Tinker

set_option maxRecDepth 100000 in
set_option maxHeartbeats 400000 in
theorem rContracted_any (a a1 b1 : Option Addr) (ca c1 c2 : Nat) (ps : List L) (lo hi : List Int) (out mn mx : Int) (w : World) (hp : LinesAt w a ps) (hl : IntsAt w a1 lo) (hh : IntsAt w b1 hi) :
    Calls Try.prog 97 #[.slice a ps.length ca, .agg #[.slice a1 lo.length c1, .slice b1 hi.length c2, .int .i64 out, .int .i64 mn, .int .i64 mx]] w fun e w' => e = .returned (.int .i64 (vpc ps lo hi out mn mx)) ∧ Below w.heap.size w w' := by
  have HV := Lib.hid (fun w hp => rValidate_any a ca ps w hp)
  have HS := Lib.hid (fun w hl hh => rValidateContract_any a1 b1 c1 c2 lo hi out mn mx w hl hh)
  have hI := (boxC_new (a := a1) (b := b1) (n := lo.length) (m := hi.length) (ca := c1) (cb := c2) (out := out) (mn := mn) (mx := mx) w)
  have HI := Lib.hid hI
  have x0 := hI.c0
  have x1 := hI.c1
  have x2 := hI.c2
  have x3 := hI.c3
  have x4 := hI.c4
  have HP := Lib.hid hp
  have HL := Lib.hid hl
  have HH := Lib.hid hh
  clear hp hl hh hI
  by_cases h : vp ps = 0
  · have HE := Lib.hid (show vpc ps lo hi out mn mx = vcon lo hi out mn mx by unfold vpc fe; rw [if_pos h])
    rw [HE.out]
    rw [h] at HV
    generalize vcon lo hi out mn mx = K at HS
    clear h HE
    go_enter Try.func97, Try.ntmps97
    go_wp2_with fail
    refine (HV.out _ (HP.out.below HI.out.below (Nat.le_refl _))).mono ?_
    rintro e w1 ⟨rfl, hB⟩
    have HJ := Lib.hid (HI.out.low hB)
    clear hB x0 x1 x2 x3 x4
    have x0 := HJ.out.c0
    have x1 := HJ.out.c1
    have x2 := HJ.out.c2
    have x3 := HJ.out.c3
    have x4 := HJ.out.c4
    go_wp2_with fail
    refine (HS.out _ (HL.out.below HJ.out.below (Nat.le_refl _)) (HH.out.below HJ.out.below (Nat.le_refl _))).mono ?_
    rintro e w2 ⟨rfl, hB⟩
    have HK := Lib.hid (HJ.out.low hB)
    clear hB x0 x1 x2 x3 x4
    go_wp2_with fail
    go_ret
    exact ⟨rfl, HK.out.below⟩
  · have HE := Lib.hid (show vpc ps lo hi out mn mx = vp ps by unfold vpc fe; rw [if_neg h])
    rw [HE.out]
    generalize vp ps = c at HV h
    have hz1 : (c != 0) = true := by simpa using h
    have hz2 : (c == 0) = false := by simpa using h
    clear h HE
    go_enter Try.func97, Try.ntmps97
    go_wp2_with fail
    refine (HV.out _ (HP.out.below HI.out.below (Nat.le_refl _))).mono ?_
    rintro e w1 ⟨rfl, hB⟩
    have HJ := Lib.hid (HI.out.low hB)
    clear hB x0 x1 x2 x3 x4
    go_wp2_with fail
    go_ret
    exact ⟨rfl, HJ.out.below⟩

theorem bdS_none (ps : List L) (lo hi : List Int) (out mn mx : Int) : ((allS lo hi).find? fun s => !gdP ps out mn mx s) = (bdS ps lo hi out mn mx)[0]? := by
  unfold bdS; rw [← List.head?_eq_getElem?, List.head?_filter]
/-- How many states are bad. -/
def bdN (ps : List L) (lo hi : List Int) (out mn mx : Int) : Int := if vpc ps lo hi out mn mx = 0 then ((bdS ps lo hi out mn mx).length : Int) else 0
theorem bdN_ok {ps : List L} {lo hi : List Int} {out mn mx : Int} (h : vpc ps lo hi out mn mx = 0) : bdN ps lo hi out mn mx = ((bdS ps lo hi out mn mx).length : Int) := by unfold bdN; rw [if_pos h]
theorem bdN_no {ps : List L} {lo hi : List Int} {out mn mx : Int} (h : vpc ps lo hi out mn mx ≠ 0) : bdN ps lo hi out mn mx = 0 := by unfold bdN; rw [if_neg h]
theorem kpB_len {ps : List L} {lo hi : List Int} {out mn mx : Int} (h : vpc ps lo hi out mn mx = 0) : kpB ps lo hi out mn mx = decide (((bdS ps lo hi out mn mx).length : Int) = 0) := by
  rw [kpB_ok h, fbL_ok h, bdS_none]
  cases bdS ps lo hi out mn mx with
  | nil => rfl
  | cons x t => rw [decide_eq_false (by simp; omega)]; rfl

set_option maxRecDepth 100000 in
set_option maxHeartbeats 1000000 in
theorem rKeeps_any (a a1 b1 : Option Addr) (ca c1 c2 : Nat) (ps : List L) (lo hi : List Int) (out mn mx : Int) (w : World) (hp : LinesAt w a ps) (hl : IntsAt w a1 lo) (hh : IntsAt w b1 hi) :
    Calls Try.prog 53 #[.slice a ps.length ca, .agg #[.slice a1 lo.length c1, .slice b1 hi.length c2, .int .i64 out, .int .i64 mn, .int .i64 mx]] w fun e w' => e = .returned (.tuple #[.bool (kpB ps lo hi out mn mx), .int .i64 (vpc ps lo hi out mn mx)]) ∧ Below w.heap.size w w' := by
  have HV := Lib.hid (fun w hp hl hh => rContracted_any a a1 b1 ca c1 c2 ps lo hi out mn mx w hp hl hh)
  have HF := Lib.hid (fun hz w hp hl hh => rBad_ok a a1 b1 ca c1 c2 ps lo hi out mn mx hz w hp hl hh)
  have hI := (boxC_new (a := a1) (b := b1) (n := lo.length) (m := hi.length) (ca := c1) (cb := c2) (out := out) (mn := mn) (mx := mx) w)
  have HI := Lib.hid hI
  have x0 := hI.c0
  have x1 := hI.c1
  have x2 := hI.c2
  have x3 := hI.c3
  have x4 := hI.c4
  have HP := Lib.hid hp
  have HL := Lib.hid hl
  have HH := Lib.hid hh
  clear hp hl hh hI
  by_cases hz : vpc ps lo hi out mn mx = 0
  · have HF2 := Lib.hid (HF.out hz)
    rw [kpB_len hz, hz]
    rw [hz] at HV
    generalize bdS ps lo hi out mn mx = X at HF2
    clear hz HF
    go_enter Try.func53, Try.ntmps53
    go_wp2_with fail
    refine (HV.out _ (HP.out.below HI.out.below (Nat.le_refl _)) (HL.out.below HI.out.below (Nat.le_refl _)) (HH.out.below HI.out.below (Nat.le_refl _))).mono ?_
    rintro e wa ⟨rfl, hB⟩
    have HJ := Lib.hid (HI.out.low hB)
    clear hB x0 x1 x2 x3 x4
    have x0 := HJ.out.c0
    have x1 := HJ.out.c1
    have x2 := HJ.out.c2
    have x3 := HJ.out.c3
    have x4 := HJ.out.c4
    go_wp2_with fail
    refine (HF2.out _ (HP.out.below HJ.out.below (Nat.le_refl _)) (HL.out.below HJ.out.below (Nat.le_refl _)) (HH.out.below HJ.out.below (Nat.le_refl _))).mono ?_
    rintro e wb ⟨ra, rc, rfl, hi1, hB⟩
    have HK := Lib.hid (HJ.out.low hB).below
    clear hB hi1
    go_wp2_with fail
    go_ret2
    exact ⟨by congr 3, HK.out⟩
  · rw [kpB_no hz]
    generalize vpc ps lo hi out mn mx = V at HV hz
    have hz1 : (V != 0) = true := by simpa using hz
    have hz2 : (V == 0) = false := by simpa using hz
    clear hz HF
    go_enter Try.func53, Try.ntmps53
    go_wp2_with fail
    refine (HV.out _ (HP.out.below HI.out.below (Nat.le_refl _)) (HL.out.below HI.out.below (Nat.le_refl _)) (HH.out.below HI.out.below (Nat.le_refl _))).mono ?_
    rintro e wa ⟨rfl, hB⟩
    have HJ := Lib.hid (HI.out.low hB)
    clear hB x0 x1 x2 x3 x4
    go_wp2_with fail
    go_ret2
    exact ⟨rfl, HJ.out.below⟩

set_option maxRecDepth 100000 in
set_option maxHeartbeats 1000000 in
theorem rBad_any (a a1 b1 : Option Addr) (ca c1 c2 : Nat) (ps : List L) (lo hi : List Int) (out mn mx : Int) (w : World) (hp : LinesAt w a ps) (hl : IntsAt w a1 lo) (hh : IntsAt w b1 hi) :
    Calls Try.prog 55 #[.slice a ps.length ca, .agg #[.slice a1 lo.length c1, .slice b1 hi.length c2, .int .i64 out, .int .i64 mn, .int .i64 mx]] w fun e w' => e = .returned (.tuple #[.int .i64 (bdN ps lo hi out mn mx), .int .i64 (vpc ps lo hi out mn mx)]) ∧ Below w.heap.size w w' := by
  have HV := Lib.hid (fun w hp hl hh => rContracted_any a a1 b1 ca c1 c2 ps lo hi out mn mx w hp hl hh)
  have HF := Lib.hid (fun hz w hp hl hh => rBad_ok a a1 b1 ca c1 c2 ps lo hi out mn mx hz w hp hl hh)
  have hI := (boxC_new (a := a1) (b := b1) (n := lo.length) (m := hi.length) (ca := c1) (cb := c2) (out := out) (mn := mn) (mx := mx) w)
  have HI := Lib.hid hI
  have x0 := hI.c0
  have x1 := hI.c1
  have x2 := hI.c2
  have x3 := hI.c3
  have x4 := hI.c4
  have HP := Lib.hid hp
  have HL := Lib.hid hl
  have HH := Lib.hid hh
  clear hp hl hh hI
  by_cases hz : vpc ps lo hi out mn mx = 0
  · have HF2 := Lib.hid (HF.out hz)
    rw [bdN_ok hz, hz]
    rw [hz] at HV
    generalize bdS ps lo hi out mn mx = X at HF2
    clear hz HF
    go_enter Try.func55, Try.ntmps55
    go_wp2_with fail
    refine (HV.out _ (HP.out.below HI.out.below (Nat.le_refl _)) (HL.out.below HI.out.below (Nat.le_refl _)) (HH.out.below HI.out.below (Nat.le_refl _))).mono ?_
    rintro e wa ⟨rfl, hB⟩
    have HJ := Lib.hid (HI.out.low hB)
    clear hB x0 x1 x2 x3 x4
    have x0 := HJ.out.c0
    have x1 := HJ.out.c1
    have x2 := HJ.out.c2
    have x3 := HJ.out.c3
    have x4 := HJ.out.c4
    go_wp2_with fail
    refine (HF2.out _ (HP.out.below HJ.out.below (Nat.le_refl _)) (HL.out.below HJ.out.below (Nat.le_refl _)) (HH.out.below HJ.out.below (Nat.le_refl _))).mono ?_
    rintro e wb ⟨ra, rc, rfl, hi1, hB⟩
    have HK := Lib.hid (HJ.out.low hB).below
    clear hB hi1
    go_wp2_with fail
    go_ret2
    exact ⟨rfl, HK.out⟩
  · rw [bdN_no hz]
    generalize vpc ps lo hi out mn mx = V at HV hz
    have hz1 : (V != 0) = true := by simpa using hz
    have hz2 : (V == 0) = false := by simpa using hz
    clear hz HF
    go_enter Try.func55, Try.ntmps55
    go_wp2_with fail
    refine (HV.out _ (HP.out.below HI.out.below (Nat.le_refl _)) (HL.out.below HI.out.below (Nat.le_refl _)) (HH.out.below HI.out.below (Nat.le_refl _))).mono ?_
    rintro e wa ⟨rfl, hB⟩
    have HJ := Lib.hid (HI.out.low hB)
    clear hB x0 x1 x2 x3 x4
    go_wp2_with fail
    go_ret2
    exact ⟨rfl, HJ.out.below⟩

set_option maxRecDepth 100000 in
set_option maxHeartbeats 1000000 in
theorem rFirstC_any (a a1 b1 : Option Addr) (ca c1 c2 : Nat) (ps : List L) (lo hi : List Int) (out mn mx : Int) (w : World) (hp : LinesAt w a ps) (hl : IntsAt w a1 lo) (hh : IntsAt w b1 hi) :
    Calls Try.prog 57 #[.slice a ps.length ca, .agg #[.slice a1 lo.length c1, .slice b1 hi.length c2, .int .i64 out, .int .i64 mn, .int .i64 mx]] w (GivesFst (fbL ps lo hi out mn mx) (vpc ps lo hi out mn mx) w) := by
  have HV := Lib.hid (fun w hp hl hh => rContracted_any a a1 b1 ca c1 c2 ps lo hi out mn mx w hp hl hh)
  have HF := Lib.hid (fun hz w hp hl hh => rBad_ok a a1 b1 ca c1 c2 ps lo hi out mn mx hz w hp hl hh)
  have hI := (boxC_new (a := a1) (b := b1) (n := lo.length) (m := hi.length) (ca := c1) (cb := c2) (out := out) (mn := mn) (mx := mx) w)
  have HI := Lib.hid hI
  have x0 := hI.c0
  have x1 := hI.c1
  have x2 := hI.c2
  have x3 := hI.c3
  have x4 := hI.c4
  have HP := Lib.hid hp
  have HL := Lib.hid hl
  have HH := Lib.hid hh
  clear hp hl hh hI
  by_cases hz : vpc ps lo hi out mn mx = 0
  · have HF2 := Lib.hid (HF.out hz)
    rw [fbL_ok hz, bdS_none, hz]
    rw [hz] at HV
    generalize bdS ps lo hi out mn mx = X at HF2
    clear hz HF
    go_enter Try.func57, Try.ntmps57
    go_wp2_with fail
    refine (HV.out _ (HP.out.below HI.out.below (Nat.le_refl _)) (HL.out.below HI.out.below (Nat.le_refl _)) (HH.out.below HI.out.below (Nat.le_refl _))).mono ?_
    rintro e wa ⟨rfl, hB⟩
    have HJ := Lib.hid (HI.out.low hB)
    clear hB x0 x1 x2 x3 x4
    have x0 := HJ.out.c0
    have x1 := HJ.out.c1
    have x2 := HJ.out.c2
    have x3 := HJ.out.c3
    have x4 := HJ.out.c4
    go_wp2_with fail
    refine (HF2.out _ (HP.out.below HJ.out.below (Nat.le_refl _)) (HL.out.below HJ.out.below (Nat.le_refl _)) (HH.out.below HJ.out.below (Nat.le_refl _))).mono ?_
    rintro e wb ⟨ra, rc, rfl, hi1, hB⟩
    have HK := Lib.hid (HJ.out.low hB).below
    clear hB
    cases X with
    | nil =>
      clear hi1
      simp only [List.length_nil]
      go_wp2_with fail
      go_ret3
      exact ⟨none, 0, rfl, .inl rfl, HK.out⟩
    | cons s t =>
      obtain ⟨gb, go, s', a', c', rfl, hgb, hs, cg, hsi⟩ := hi1.at_ (k := 0) (by simp)
      obtain rfl : s = s' := by simpa using hs
      have HSI := Lib.hid hsi
      rw [Nat.add_zero] at cg
      have hne : (((s :: t).length : Int) == 0) = false := by simp; omega
      have hl0 : 0 < (s :: t).length := by simp
      clear hs hsi
      generalize (s :: t).length = n at hne hl0 ⊢
      go_wp2_with fail
      go_ret3
      exact ⟨a', c', rfl, HSI.out, HK.out⟩
  · rw [fbL_no hz]
    generalize vpc ps lo hi out mn mx = V at HV hz
    have hz1 : (V != 0) = true := by simpa using hz
    have hz2 : (V == 0) = false := by simpa using hz
    clear hz HF
    go_enter Try.func57, Try.ntmps57
    go_wp2_with fail
    refine (HV.out _ (HP.out.below HI.out.below (Nat.le_refl _)) (HL.out.below HI.out.below (Nat.le_refl _)) (HH.out.below HI.out.below (Nat.le_refl _))).mono ?_
    rintro e wa ⟨rfl, hB⟩
    have HJ := Lib.hid (HI.out.low hB)
    clear hB x0 x1 x2 x3 x4
    go_wp2_with fail
    go_ret3
    exact ⟨none, 0, rfl, .inl rfl, HJ.out.below⟩

end Go.Proofs.Ytndmjenfgggfbaa
