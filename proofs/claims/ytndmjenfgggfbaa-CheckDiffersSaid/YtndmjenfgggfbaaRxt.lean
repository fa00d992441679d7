/- Contracts of the document: Extremes. -/
import Derived.Test.YtndmjenfgggfbaaRkp
set_option linter.unusedVariables false
set_option linter.unusedSimpArgs false
namespace Go.Proofs.Ytndmjenfgggfbaa
open Go.RowKit Tinker

/-- The smallest and the greatest number at the end, from these states. -/
def xtl (ps : List L) (out : Int) (l : List (List Int)) : Int × Int := l.foldl (fun p s => (min p.1 (endP ps s out), max p.2 (endP ps s out))) (999, -999)
theorem xtl_snoc (ps : List L) (out : Int) (l : List (List Int)) (s : List Int) : xtl ps out (l ++ [s]) = (min (xtl ps out l).1 (endP ps s out), max (xtl ps out l).2 (endP ps s out)) := by
  unfold xtl; rw [List.foldl_append]; rfl
def exV (ps : List L) (lo hi : List Int) (out mn mx : Int) : Int × Int := if vpc ps lo hi out mn mx = 0 then xtl ps out (allS lo hi) else (0, 0)
theorem exV_ok {ps : List L} {lo hi : List Int} {out mn mx : Int} (h : vpc ps lo hi out mn mx = 0) : exV ps lo hi out mn mx = xtl ps out (allS lo hi) := by unfold exV; rw [if_pos h]
theorem exV_no {ps : List L} {lo hi : List Int} {out mn mx : Int} (h : vpc ps lo hi out mn mx ≠ 0) : exV ps lo hi out mn mx = (0, 0) := by unfold exV; rw [if_neg h]

set_option maxRecDepth 100000 in
set_option maxHeartbeats 1000000 in
theorem rExtremes_any (a a1 b1 : Option Addr) (ca c1 c2 : Nat) (ps : List L) (lo hi : List Int) (out mn mx : Int) (w : World) (hp : LinesAt w a ps) (hl : IntsAt w a1 lo) (hh : IntsAt w b1 hi) :
    Calls Try.prog 59 #[.slice a ps.length ca, .agg #[.slice a1 lo.length c1, .slice b1 hi.length c2, .int .i64 out, .int .i64 mn, .int .i64 mx]] w fun e w' => e = .returned (.tuple #[.int .i64 (exV ps lo hi out mn mx).1, .int .i64 (exV ps lo hi out mn mx).2, .int .i64 (vpc ps lo hi out mn mx)]) ∧ Below w.heap.size w w' := by
  have HV := Lib.hid (fun w hp hl hh => rContracted_any a a1 b1 ca c1 c2 ps lo hi out mn mx w hp hl hh)
  have HF := Lib.hid (fun hz w hl hh => rStates_ok a1 b1 c1 c2 lo hi out mn mx hz w hl hh)
  have hI := (boxC_new (a := a1) (b := b1) (n := lo.length) (m := hi.length) (ca := c1) (cb := c2) (out := out) (mn := mn) (mx := mx) w)
  have HI := Lib.hid hI
  have x0 := hI.c0
  have x1 := hI.c1
  have x2 := hI.c2
  have x3 := hI.c3
  have x4 := hI.c4
  have HP := Lib.hid hp
  have HL := Lib.hid hl
  have HH := Lib.hid hh
  clear hp hl hh hI
  by_cases hz : vpc ps lo hi out mn mx = 0
  · obtain ⟨hv, hcon⟩ := vpc_ok hz
    have HF2 := Lib.hid (HF.out hcon)
    obtain ⟨hcon2, hN⟩ := vcon_ok hcon
    have hc := okC_of hcon2
    obtain ⟨_, _, _, ho, _⟩ := isCon_ok hcon2
    have HMS := Lib.hid (fun (k : Nat) (s : List Int) (h : (allS lo hi)[k]? = some s) => show vr ps s = 0 by unfold vr fe; rw [if_pos hv]; exact (mem_st hc h).2)
    have HO := Lib.hid ho
    have hlen : (allS lo hi).length ≤ 400 := by
      have := exTo_len (lo := lo) (hi := hi) 4 (fun j hj => hc.le j hj)
      unfold allS; omega
    rw [exV_ok hz, hz]
    rw [hz] at HV
    generalize allS lo hi = ss at *
    clear hz HF hv hcon hcon2 hN hc ho
    go_enter Try.func59, Try.ntmps59
    go_wp2_with fail
    refine (HV.out _ (HP.out.below HI.out.below (Nat.le_refl _)) (HL.out.below HI.out.below (Nat.le_refl _)) (HH.out.below HI.out.below (Nat.le_refl _))).mono ?_
    rintro e wa ⟨rfl, hB⟩
    have HJ := Lib.hid (HI.out.low hB)
    clear hB x0 x1 x2 x3 x4
    have x0 := HJ.out.c0
    have x1 := HJ.out.c1
    have x2 := HJ.out.c2
    have x3 := HJ.out.c3
    have x4 := HJ.out.c4
    go_wp2_with fail
    refine (HF2.out _ (HL.out.below HJ.out.below (Nat.le_refl _)) (HH.out.below HJ.out.below (Nat.le_refl _))).mono ?_
    rintro e wl ⟨la, lc, rfl, hR, hB⟩
    have HIL := Lib.hid (HJ.out.low hB)
    have HR := Lib.hid hR
    clear hR hB x0 x1 x2 x3 x4 HF2 HJ HI
    go_wp2_with fail
    go_loopw [8, 9, 11] (fun s8 s9 s11 wr => ∃ (k : Nat), k ≤ ss.length ∧ s11 = .int .i64 k ∧ s8 = .int .i64 (xtl ps out (ss.take k)).1 ∧ s9 = .int .i64 (xtl ps out (ss.take k)).2 ∧ Below wl.heap.size wl wr) (fun _ _ s11 _ => ss.length - (intOf s11).toNat)
    case atStart => exact ⟨0, Nat.zero_le _, rfl, rfl, rfl, Below.refl _ _⟩
    case round =>
      obtain ⟨k, hk, rfl, rfl, rfl, hJ⟩ := hrel
      by_cases hlt : k < ss.length
      · obtain ⟨gb, go, s, a', c', rfl, hgb, hs, cg, hsi⟩ := HR.out.at_ hlt
        have HIR := Lib.hid (HIL.out.low hJ)
        have hzr := HMS.out k s hs
        have HE := Lib.hid (fun w hp hs => rMade_any a a' ca c' ps s out w hp hs hzr HO.out)
        have cg1 := (hJ.cell (p := ⟨gb, _, none⟩) hgb).trans cg
        have hgw := Nat.lt_of_lt_of_le hgb hJ.size
        have y2 := HIR.out.c2
        have hlx := hp_lt HIR.out.bl
        have HPR := Lib.hid (HP.out.below HIR.out.below (Nat.le_refl _))
        have HSR := Lib.hid (hsi.below hJ (Nat.le_refl _))
        have HX := Lib.hid (show xtl ps out (ss.take (k + 1)) = (min (xtl ps out (ss.take k)).1 (endP ps s out), max (xtl ps out (ss.take k)).2 (endP ps s out)) by rw [take_more hs, xtl_snoc])
        generalize xtl ps out (ss.take k) = p0 at HX ⊢
        obtain ⟨m0, n0⟩ := p0
        generalize endP ps s out = V at HE HX
        have HJ := Lib.hid hJ
        clear hs hJ hzr hsi cg
        go_upto_region 9 with fail
        go_cut [12] (fun s12 wx => s12 = .int .i64 V ∧ Below wr.heap.size wr wx)
        case first =>
          go_region_held3 (fun w' => w'.cell? ⟨gb, go + k, none⟩ = some (.slice a' s.length c') ∧ w'.cell? ⟨w.heap.size, 2, none⟩ = some (.int .i64 out)) (first | exact ⟨cg1, y2⟩ | exact ⟨(hBa.cell (p := ⟨gb, _, none⟩) hgw).trans cg1, (hBa.cell (p := ⟨w.heap.size, _, none⟩) hlx).trans y2⟩ | go_keep) ((go_at_call 65; refine (HE.out _ ?_ ?_).mono ?_; exact (HPR.out.below (Below.refl _ _).drew (Nat.le_refl _)); exact (HSR.out.below (Below.refl _ _).drew (Nat.le_refl _)); rintro e wa ⟨rfl, hBa⟩))
          all_goals go_wp2_with fail
          all_goals go_meet
          all_goals exact ⟨rfl, (Below.refl _ _).drew.trans hBa⟩
        case rest =>
          obtain ⟨rfl, hB2⟩ := hcut
          have HJ2 := Lib.hid (HJ.out.trans (hB2.mono HJ.out.size))
          clear HJ hB2 cg1 y2 hlx HIR HPR HSR
          go_wp2_with fail
          go_roundw
          case rel => exact ⟨k + 1, by omega, by go_num, by rw [HX.out]; show Value.int _ _ = Value.int _ (min m0 V); congr 1; split <;> omega, by rw [HX.out]; show Value.int _ _ = Value.int _ (max n0 V); congr 1; split <;> omega, HJ2.out⟩
          case measure => simp [intOf]; omega
      · obtain rfl : k = ss.length := by omega
        rw [List.take_of_length_le (Nat.le_refl _)]
        have HB := Lib.hid (HIL.out.low hJ).below
        clear hJ
        go_wp2_with fail
        go_ret3
        exact ⟨rfl, HB.out⟩
  · rw [exV_no hz]
    generalize vpc ps lo hi out mn mx = V at HV hz
    have hz1 : (V != 0) = true := by simpa using hz
    have hz2 : (V == 0) = false := by simpa using hz
    clear hz HF
    go_enter Try.func59, Try.ntmps59
    go_wp2_with fail
    refine (HV.out _ (HP.out.below HI.out.below (Nat.le_refl _)) (HL.out.below HI.out.below (Nat.le_refl _)) (HH.out.below HI.out.below (Nat.le_refl _))).mono ?_
    rintro e wa ⟨rfl, hB⟩
    have HJ := Lib.hid (HI.out.low hB)
    clear hB x0 x1 x2 x3 x4
    go_wp2_with fail
    go_ret3
    exact ⟨rfl, HJ.out.below⟩

end Go.Proofs.Ytndmjenfgggfbaa
