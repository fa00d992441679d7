/- Several texts in one. -/
import Derived.Test.YtmpgaccpdglhkaaGreatGdB
import Derived.Test.YtmpgaccpdglhkaaGreatStC
import Derived.Test.YtmpgaccpdglhkaaGreatChkP
import Derived.Sort.CutIn
/- The document's bad states: contract. -/
set_option linter.unusedVariables false
set_option linter.unusedSimpArgs false
namespace Go.Proofs.YtmpgaccpdglhkaaGreat
open Go.RowKit Tinker

/-- The bad states. -/
def bdS (ps : List L) (lo hi : List Int) (out mn mx : Int) : List (List Int) := (allS lo hi).filter fun s => !gdP ps out mn mx s
theorem take_more {α : Type} {xs : List α} {k : Nat} {x : α} (h : xs[k]? = some x) : xs.take (k + 1) = xs.take k ++ [x] := by
  rw [List.take_add_one, h]; rfl
theorem filt_yes {α : Type} {p : α → Bool} {xs : List α} {k : Nat} {x : α} (h : xs[k]? = some x) (hp : p x = true) : (xs.take (k + 1)).filter p = (xs.take k).filter p ++ [x] := by
  rw [take_more h, List.filter_append]; simp [hp]
theorem filt_no {α : Type} {p : α → Bool} {xs : List α} {k : Nat} {x : α} (h : xs[k]? = some x) (hp : p x = false) : (xs.take (k + 1)).filter p = (xs.take k).filter p := by
  rw [take_more h, List.filter_append]; simp [hp]
theorem filt_le {α : Type} (p : α → Bool) (xs : List α) (k : Nat) : ((xs.take k).filter p).length ≤ k :=
  Nat.le_trans (List.length_filter_le _ _) (by rw [List.length_take]; omega)
theorem mem_st {lo hi s : List Int} (hc : OkC lo hi) {k : Nat} (h : (allS lo hi)[k]? = some s) : inBx lo hi 4 s ∧ vs s = 0 :=
  have h1 := exTo_in lo hi 4 s (mem_of_get h)
  ⟨h1, inBx_vs hc h1⟩

set_option maxRecDepth 100000 in
set_option maxHeartbeats 2000000 in
theorem rBad_ok (a a1 b1 : Option Addr) (ca c1 c2 : Nat) (ps : List L) (lo hi : List Int) (out mn mx : Int) (hz : vpc ps lo hi out mn mx = 0) (w : World) (hp : LinesAt w a ps) (hl : IntsAt w a1 lo) (hh : IntsAt w b1 hi) :
    Calls Tryz.prog 40 #[.slice a ps.length ca, .agg #[.slice a1 lo.length c1, .slice b1 hi.length c2, .int .i64 out, .int .i64 mn, .int .i64 mx]] w (GivesRows (bdS ps lo hi out mn mx) w) := by
  obtain ⟨j0, hj, jz0, jz1, jz2⟩ := info_parts info_ints
  obtain ⟨hv, hcon⟩ := vpc_ok hz
  have HST := Lib.hid (fun W hl hh => rStates_ok a1 b1 c1 c2 lo hi out mn mx hcon W hl hh)
  obtain ⟨hcon2, hN⟩ := vcon_ok hcon
  have hc := okC_of hcon2
  obtain ⟨_, _, _, ho, _⟩ := isCon_ok hcon2
  have HMS := Lib.hid (fun (k : Nat) (s : List Int) (h : (allS lo hi)[k]? = some s) => show vr ps s = 0 by unfold vr fe; rw [if_pos hv]; exact (mem_st hc h).2)
  have hlen : (allS lo hi).length ≤ 400 := by
    have := exTo_len (lo := lo) (hi := hi) 4 (fun j hj => hc.le j hj)
    unfold allS; omega
  have HO := Lib.hid ho
  have hI := (boxC_new (a := a1) (b := b1) (n := lo.length) (m := hi.length) (ca := c1) (cb := c2) (out := out) (mn := mn) (mx := mx) w)
  have HI := Lib.hid hI
  have x0 := hI.c0
  have x1 := hI.c1
  have x2 := hI.c2
  have x3 := hI.c3
  have x4 := hI.c4
  have HP := Lib.hid hp
  have HL := Lib.hid hl
  have HH := Lib.hid hh
  unfold bdS
  generalize allS lo hi = ss at *
  clear hz hcon hv hcon2 hN hc ho hI hp hl hh
  go_enter Tryz.func40, Tryz.ntmps40
  go_wp2_with fail
  refine (HST.out _ (HL.out.below HI.out.below (Nat.le_refl _)) (HH.out.below HI.out.below (Nat.le_refl _))).mono ?_
  rintro e wl ⟨la, lc, rfl, hR, hB⟩
  have HIL := Lib.hid (HI.out.low hB)
  have HR := Lib.hid hR
  clear hR hB x0 x1 x2 x3 x4 HST HI
  go_wp2_with fail
  go_loopw [5, 7] (fun s5 s7 wr => ∃ (k : Nat) (xs : List Value), k ≤ ss.length ∧ s7 = .int .i64 k ∧ RowsV wl s5 ((ss.take k).filter fun s => !gdP ps out mn mx s) xs wr) (fun _ s7 _ => ss.length - (intOf s7).toNat)
  case atStart => exact ⟨0, [], Nat.zero_le _, rfl, by simpa using RowsV.nil (Below.refl wl.heap.size wl)⟩
  case round =>
    obtain ⟨k, xs, hk, rfl, hJ⟩ := hrel
    by_cases hlt : k < ss.length
    · obtain ⟨gb, go, s, a', c', rfl, hgb, hs, cg, hsi⟩ := HR.out.at_ hlt
      have HIR := Lib.hid (HIL.out.low hJ.below)
      have hzr := HMS.out k s hs
      have HE := Lib.hid (fun w hp hs => rMade_any a a' ca c' ps s out w hp hs hzr HO.out)
      have HW := Lib.hid (fun n w => rWithin2_any n mn mx w)
      have cg1 := (hJ.below.cell (p := ⟨gb, _, none⟩) hgb).trans cg
      have hgw := Nat.lt_of_lt_of_le hgb hJ.below.size
      have y2 := HIR.out.c2
      have y3 := HIR.out.c3
      have y4 := HIR.out.c4
      have hlx := hp_lt HIR.out.bl
      have HPR := Lib.hid (HP.out.below HIR.out.below (Nat.le_refl _))
      have HSR := Lib.hid (hsi.below hJ.below (Nat.le_refl _))
      have HSI := Lib.hid hsi
      have HGY := Lib.hid (fun h : (!gdP ps out mn mx s) = true => filt_yes (p := fun s => !gdP ps out mn mx s) hs h)
      have HGN := Lib.hid (fun h : (!gdP ps out mn mx s) = false => filt_no (p := fun s => !gdP ps out mn mx s) hs h)
      have hgd : gdP ps out mn mx s = btw (endP ps s out) mn mx := rfl
      have hfl := filt_le (fun s => !gdP ps out mn mx s) ss k
      rw [hgd] at HGY HGN
      generalize endP ps s out = V at HE HGY HGN
      have HJ := Lib.hid hJ
      clear hs hJ hzr hgd hsi cg
      go_upto_if 29 with fail
      go_cut [29] (fun s29 wx => s29 = .bool (!btw V mn mx) ∧ Below wr.heap.size wr wx)
      case first =>
        go_region_held3 (fun w' => w'.cell? ⟨gb, go + k, none⟩ = some (.slice a' s.length c') ∧ w'.cell? ⟨w.heap.size, 2, none⟩ = some (.int .i64 out) ∧ w'.cell? ⟨w.heap.size, 3, none⟩ = some (.int .i64 mn) ∧ w'.cell? ⟨w.heap.size, 4, none⟩ = some (.int .i64 mx)) (first | exact ⟨cg1, y2, y3, y4⟩ | exact ⟨(hBa.cell (p := ⟨gb, _, none⟩) hgw).trans cg1, (hBa.cell (p := ⟨w.heap.size, _, none⟩) hlx).trans y2, (hBa.cell (p := ⟨w.heap.size, _, none⟩) hlx).trans y3, (hBa.cell (p := ⟨w.heap.size, _, none⟩) hlx).trans y4⟩ | go_keep) (first | (go_at_call 58; refine (HE.out _ ?_ ?_).mono ?_; exact (HPR.out.below (Below.refl _ _).drew (Nat.le_refl _)); exact (HSR.out.below (Below.refl _ _).drew (Nat.le_refl _)); rintro e wa ⟨rfl, hBa⟩) | (go_at_call 53; refine (HW.out _ _).mono ?_; rintro e wb ⟨rfl, rfl⟩))
        all_goals go_wp2_with fail
        all_goals go_meet
        all_goals exact ⟨rfl, (Below.refl _ _).drew.trans hBa⟩
      case rest =>
        obtain ⟨rfl, hB2⟩ := hcut
        have HJ2 := Lib.hid (HJ.out.low hB2)
        have hcg := (hB2.cell (p := ⟨gb, _, none⟩) hgw).trans cg1
        have hgw2 := Nat.lt_of_lt_of_le hgw hB2.size
        clear HJ hB2 cg1 y2 y3 y4 hlx HIR HPR HSR
        cases hpv : (!btw V mn mx)
        · have HX := Lib.hid (HGN.out hpv)
          clear hpv
          go_wp2_with fail
          go_roundw
          case rel => exact ⟨k + 1, xs, by omega, by go_num, by rw [HX.out]; exact HJ2.out⟩
          case measure => simp [intOf]; omega
        · have HX := Lib.hid (HGY.out hpv)
          clear hpv
          have HAL := Lib.hid (HJ2.out.low ((Below.refl wc.heap.size wc).alloc (Nat.le_refl _) (.cells #[.slice a' s.length c'] 23)))
          have hws := HJ2.out.below.size
          go_wp2_with (at_builtin; (refine wpList_append_own_at _ rfl (.tmp 30) (.tmp 35) 71 rfl wl.heap.size 23 j0 (.slice none 0 0) 1 24 Tryz.underlying71 hj jz0 jz1 jz2 rfl (by decide) _ _ xs rfl HAL.out.own ⟨wc.heap.size, 0, none⟩ 1 1 [.slice a' s.length c'] rfl ?d1 ?d2 ?d3 ?d4 ?d5 ?d6 ?_))
          case d1 => rfl
          case d2 => exact cell_one_new _ _ _
          case d3 => simp [Value.oneCell']
          case d4 => unfold maxLen; omega
          case d5 => omega
          case d6 => simp; omega
          intro v3 w3 hown3 hgrow3 _ hat3
          have HP3 := Lib.hid (HAL.out.push (c := c') HSI.out hown3 hgrow3)
          clear hown3 hgrow3 hat3
          go_wp2_with fail
          go_roundw
          case rel => exact ⟨k + 1, _, by omega, by go_num, by rw [HX.out]; exact HP3.out⟩
          case measure => simp [intOf]; omega
    · obtain rfl : k = ss.length := by omega
      rw [List.take_of_length_le (Nat.le_refl _)] at hJ
      obtain ⟨a2, k2, rfl⟩ := own_slice hJ.own
      have hat := hJ.at_
      have HB := Lib.hid (HIL.out.low hJ.below).below
      have HAT := Lib.hid hat.1
      clear hJ hat
      go_wp2_with fail
      go_ret
      exact ⟨a2, k2, rfl, HAT.out, HB.out⟩

end Go.Proofs.YtmpgaccpdglhkaaGreat

/- Contracts of the document: contracted, Keeps, Bad, First. -/
set_option linter.unusedVariables false
set_option linter.unusedSimpArgs false
namespace Go.Proofs.YtmpgaccpdglhkaaGreat
open Go.RowKit Tinker

set_option maxRecDepth 100000 in
set_option maxHeartbeats 400000 in
theorem rContracted_any (a a1 b1 : Option Addr) (ca c1 c2 : Nat) (ps : List L) (lo hi : List Int) (out mn mx : Int) (w : World) (hp : LinesAt w a ps) (hl : IntsAt w a1 lo) (hh : IntsAt w b1 hi) :
    Calls Tryz.prog 39 #[.slice a ps.length ca, .agg #[.slice a1 lo.length c1, .slice b1 hi.length c2, .int .i64 out, .int .i64 mn, .int .i64 mx]] w fun e w' => e = .returned (.int .i64 (vpc ps lo hi out mn mx)) ∧ Below w.heap.size w w' := by
  have HV := Lib.hid (fun w hp => rValidate_any a ca ps w hp)
  have HS := Lib.hid (fun w hl hh => rValidateContract_any a1 b1 c1 c2 lo hi out mn mx w hl hh)
  have hI := (boxC_new (a := a1) (b := b1) (n := lo.length) (m := hi.length) (ca := c1) (cb := c2) (out := out) (mn := mn) (mx := mx) w)
  have HI := Lib.hid hI
  have x0 := hI.c0
  have x1 := hI.c1
  have x2 := hI.c2
  have x3 := hI.c3
  have x4 := hI.c4
  have HP := Lib.hid hp
  have HL := Lib.hid hl
  have HH := Lib.hid hh
  clear hp hl hh hI
  by_cases h : vp ps = 0
  · have HE := Lib.hid (show vpc ps lo hi out mn mx = vcon lo hi out mn mx by unfold vpc fe; rw [if_pos h])
    rw [HE.out]
    rw [h] at HV
    generalize vcon lo hi out mn mx = K at HS
    clear h HE
    go_enter Tryz.func39, Tryz.ntmps39
    go_wp2_with fail
    refine (HV.out _ (HP.out.below HI.out.below (Nat.le_refl _))).mono ?_
    rintro e w1 ⟨rfl, hB⟩
    have HJ := Lib.hid (HI.out.low hB)
    clear hB x0 x1 x2 x3 x4
    have x0 := HJ.out.c0
    have x1 := HJ.out.c1
    have x2 := HJ.out.c2
    have x3 := HJ.out.c3
    have x4 := HJ.out.c4
    go_wp2_with fail
    refine (HS.out _ (HL.out.below HJ.out.below (Nat.le_refl _)) (HH.out.below HJ.out.below (Nat.le_refl _))).mono ?_
    rintro e w2 ⟨rfl, hB⟩
    have HK := Lib.hid (HJ.out.low hB)
    clear hB x0 x1 x2 x3 x4
    go_wp2_with fail
    go_ret
    exact ⟨rfl, HK.out.below⟩
  · have HE := Lib.hid (show vpc ps lo hi out mn mx = vp ps by unfold vpc fe; rw [if_neg h])
    rw [HE.out]
    generalize vp ps = c at HV h
    have hz1 : (c != 0) = true := by simpa using h
    have hz2 : (c == 0) = false := by simpa using h
    clear h HE
    go_enter Tryz.func39, Tryz.ntmps39
    go_wp2_with fail
    refine (HV.out _ (HP.out.below HI.out.below (Nat.le_refl _))).mono ?_
    rintro e w1 ⟨rfl, hB⟩
    have HJ := Lib.hid (HI.out.low hB)
    clear hB x0 x1 x2 x3 x4
    go_wp2_with fail
    go_ret
    exact ⟨rfl, HJ.out.below⟩

theorem bdS_none (ps : List L) (lo hi : List Int) (out mn mx : Int) : ((allS lo hi).find? fun s => !gdP ps out mn mx s) = (bdS ps lo hi out mn mx)[0]? := by
  unfold bdS; rw [← List.head?_eq_getElem?, List.head?_filter]
/-- How many states are bad. -/
def bdN (ps : List L) (lo hi : List Int) (out mn mx : Int) : Int := if vpc ps lo hi out mn mx = 0 then ((bdS ps lo hi out mn mx).length : Int) else 0
theorem bdN_ok {ps : List L} {lo hi : List Int} {out mn mx : Int} (h : vpc ps lo hi out mn mx = 0) : bdN ps lo hi out mn mx = ((bdS ps lo hi out mn mx).length : Int) := by unfold bdN; rw [if_pos h]
theorem bdN_no {ps : List L} {lo hi : List Int} {out mn mx : Int} (h : vpc ps lo hi out mn mx ≠ 0) : bdN ps lo hi out mn mx = 0 := by unfold bdN; rw [if_neg h]
theorem kpB_len {ps : List L} {lo hi : List Int} {out mn mx : Int} (h : vpc ps lo hi out mn mx = 0) : kpB ps lo hi out mn mx = decide (((bdS ps lo hi out mn mx).length : Int) = 0) := by
  rw [kpB_ok h, fbL_ok h, bdS_none]
  cases bdS ps lo hi out mn mx with
  | nil => rfl
  | cons x t => rw [decide_eq_false (by simp; omega)]; rfl

set_option maxRecDepth 100000 in
set_option maxHeartbeats 1000000 in
theorem rKeeps_any (a a1 b1 : Option Addr) (ca c1 c2 : Nat) (ps : List L) (lo hi : List Int) (out mn mx : Int) (w : World) (hp : LinesAt w a ps) (hl : IntsAt w a1 lo) (hh : IntsAt w b1 hi) :
    Calls Tryz.prog 20 #[.slice a ps.length ca, .agg #[.slice a1 lo.length c1, .slice b1 hi.length c2, .int .i64 out, .int .i64 mn, .int .i64 mx]] w fun e w' => e = .returned (.tuple #[.bool (kpB ps lo hi out mn mx), .int .i64 (vpc ps lo hi out mn mx)]) ∧ Below w.heap.size w w' := by
  have HV := Lib.hid (fun w hp hl hh => rContracted_any a a1 b1 ca c1 c2 ps lo hi out mn mx w hp hl hh)
  have HF := Lib.hid (fun hz w hp hl hh => rBad_ok a a1 b1 ca c1 c2 ps lo hi out mn mx hz w hp hl hh)
  have hI := (boxC_new (a := a1) (b := b1) (n := lo.length) (m := hi.length) (ca := c1) (cb := c2) (out := out) (mn := mn) (mx := mx) w)
  have HI := Lib.hid hI
  have x0 := hI.c0
  have x1 := hI.c1
  have x2 := hI.c2
  have x3 := hI.c3
  have x4 := hI.c4
  have HP := Lib.hid hp
  have HL := Lib.hid hl
  have HH := Lib.hid hh
  clear hp hl hh hI
  by_cases hz : vpc ps lo hi out mn mx = 0
  · have HF2 := Lib.hid (HF.out hz)
    rw [kpB_len hz, hz]
    rw [hz] at HV
    generalize bdS ps lo hi out mn mx = X at HF2
    clear hz HF
    go_enter Tryz.func20, Tryz.ntmps20
    go_wp2_with fail
    refine (HV.out _ (HP.out.below HI.out.below (Nat.le_refl _)) (HL.out.below HI.out.below (Nat.le_refl _)) (HH.out.below HI.out.below (Nat.le_refl _))).mono ?_
    rintro e wa ⟨rfl, hB⟩
    have HJ := Lib.hid (HI.out.low hB)
    clear hB x0 x1 x2 x3 x4
    have x0 := HJ.out.c0
    have x1 := HJ.out.c1
    have x2 := HJ.out.c2
    have x3 := HJ.out.c3
    have x4 := HJ.out.c4
    go_wp2_with fail
    refine (HF2.out _ (HP.out.below HJ.out.below (Nat.le_refl _)) (HL.out.below HJ.out.below (Nat.le_refl _)) (HH.out.below HJ.out.below (Nat.le_refl _))).mono ?_
    rintro e wb ⟨ra, rc, rfl, hi1, hB⟩
    have HK := Lib.hid (HJ.out.low hB).below
    clear hB hi1
    go_wp2_with fail
    go_ret2
    exact ⟨by congr 3, HK.out⟩
  · rw [kpB_no hz]
    generalize vpc ps lo hi out mn mx = V at HV hz
    have hz1 : (V != 0) = true := by simpa using hz
    have hz2 : (V == 0) = false := by simpa using hz
    clear hz HF
    go_enter Tryz.func20, Tryz.ntmps20
    go_wp2_with fail
    refine (HV.out _ (HP.out.below HI.out.below (Nat.le_refl _)) (HL.out.below HI.out.below (Nat.le_refl _)) (HH.out.below HI.out.below (Nat.le_refl _))).mono ?_
    rintro e wa ⟨rfl, hB⟩
    have HJ := Lib.hid (HI.out.low hB)
    clear hB x0 x1 x2 x3 x4
    go_wp2_with fail
    go_ret2
    exact ⟨rfl, HJ.out.below⟩

end Go.Proofs.YtmpgaccpdglhkaaGreat

/- How many states are bad: Bad of package check: contract. -/
set_option linter.unusedVariables false
set_option linter.unusedSimpArgs false
namespace Go.Proofs.YtmpgaccpdglhkaaGreat
open Go.RowKit Go.Shelf Tinker
attribute [local go_sem] Oper.semAt_some

/-- The memory of a scan: the program, the contract. B is the size of the heap at the start. -/
structure ScnI (B : Nat) (vp : Value) (vc : Array Value) (w W : World) : Prop where
  bp : W.heap[B]? = some (.cells #[vp] 22 (0, 0))
  bc : W.heap[B + 1]? = some (.cells vc 25 (0, 0))
  below : Below w.heap.size w W
theorem ScnI.lowB {B : Nat} {vp : Value} {vc : Array Value} {w W W' : World} (h : ScnI B vp vc w W) {n : Nat} (hb : Below n W W') (hn : B + 2 ≤ n ∧ w.heap.size ≤ n) : ScnI B vp vc w W' :=
  ⟨hp_below h.bp hb (by omega), hp_below h.bc hb (by omega), h.below.trans (hb.mono hn.2)⟩
theorem ScnI.low {B : Nat} {vp : Value} {vc : Array Value} {w W W' : World} (h : ScnI B vp vc w W) (hb : Below W.heap.size W W') : ScnI B vp vc w W' :=
  h.lowB hb ⟨by have := hp_lt h.bc; omega, h.below.size⟩
theorem ScnI.drew {B : Nat} {vp : Value} {vc : Array Value} {w W : World} (h : ScnI B vp vc w W) : ScnI B vp vc w W.drew := ⟨hp_drew h.bp, hp_drew h.bc, h.below.drew⟩
theorem ScnI.put {B : Nat} {vp : Value} {vc : Array Value} {w W : World} (h : ScnI B vp vc w W) (hB : w.heap.size ≤ B) {K : Nat} (hK : B + 1 < K) (j : Nat) (v : Value) : ScnI B vp vc w (W.setCell ⟨K, j, none⟩ v) :=
  ⟨hp_set h.bp (by show B ≠ K; omega) _, hp_set h.bc (by show B + 1 ≠ K; omega) _, h.below.setCell (p := ⟨K, j, none⟩) (by show _ ≤ K; omega) _⟩

end Go.Proofs.YtmpgaccpdglhkaaGreat

/- Contracts of the document: Extremes. -/
set_option linter.unusedVariables false
set_option linter.unusedSimpArgs false
namespace Go.Proofs.YtmpgaccpdglhkaaGreat
open Go.RowKit Tinker

/-- The smallest and the greatest number at the end, from these states. -/
def xtl (ps : List L) (out : Int) (l : List (List Int)) : Int × Int := l.foldl (fun p s => (min p.1 (endP ps s out), max p.2 (endP ps s out))) (999, -999)
theorem xtl_snoc (ps : List L) (out : Int) (l : List (List Int)) (s : List Int) : xtl ps out (l ++ [s]) = (min (xtl ps out l).1 (endP ps s out), max (xtl ps out l).2 (endP ps s out)) := by
  unfold xtl; rw [List.foldl_append]; rfl
def exV (ps : List L) (lo hi : List Int) (out mn mx : Int) : Int × Int := if vpc ps lo hi out mn mx = 0 then xtl ps out (allS lo hi) else (0, 0)
theorem exV_ok {ps : List L} {lo hi : List Int} {out mn mx : Int} (h : vpc ps lo hi out mn mx = 0) : exV ps lo hi out mn mx = xtl ps out (allS lo hi) := by unfold exV; rw [if_pos h]
theorem exV_no {ps : List L} {lo hi : List Int} {out mn mx : Int} (h : vpc ps lo hi out mn mx ≠ 0) : exV ps lo hi out mn mx = (0, 0) := by unfold exV; rw [if_neg h]

end Go.Proofs.YtmpgaccpdglhkaaGreat

/- The smallest and the greatest number: Extremes of package check: contract. -/
set_option linter.unusedVariables false
set_option linter.unusedSimpArgs false
namespace Go.Proofs.YtmpgaccpdglhkaaGreat
open Go.RowKit Go.Shelf Tinker
attribute [local go_sem] Oper.semAt_some

end Go.Proofs.YtmpgaccpdglhkaaGreat

/- The first state that tells two programs apart: Differ of package check: contract. -/
set_option linter.unusedVariables false
set_option linter.unusedSimpArgs false
namespace Go.Proofs.YtmpgaccpdglhkaaGreat
open Go.RowKit Go.Shelf Tinker
attribute [local go_sem] Oper.semAt_some

/-- Whether two programs end alike in a register. -/
def eqP (ps qs : List L) (out : Int) (s : List Int) : Bool := endP ps s out == endP qs s out

end Go.Proofs.YtmpgaccpdglhkaaGreat

/- Contracts of the document: Differ. -/
set_option linter.unusedVariables false
set_option linter.unusedSimpArgs false
namespace Go.Proofs.YtmpgaccpdglhkaaGreat
open Go.RowKit Tinker

/-- What Differ answers. -/
def dfc (ps qs : List L) (lo hi : List Int) (out mn mx : Int) : Int := fe (vp ps) (vpc qs lo hi out mn mx)
theorem dfc_ok {ps qs : List L} {lo hi : List Int} {out mn mx : Int} (h : dfc ps qs lo hi out mn mx = 0) : vp ps = 0 ∧ vpc qs lo hi out mn mx = 0 := by
  unfold dfc fe at h; split at h
  · exact ⟨by assumption, h⟩
  · contradiction
def dfL (ps qs : List L) (lo hi : List Int) (out mn mx : Int) : Option (List Int) := if dfc ps qs lo hi out mn mx = 0 then (allS lo hi).find? (fun s => !eqP ps qs out s) else none
theorem dfL_no {ps qs : List L} {lo hi : List Int} {out mn mx : Int} (h : dfc ps qs lo hi out mn mx ≠ 0) : dfL ps qs lo hi out mn mx = none := by unfold dfL; rw [if_neg h]
theorem dfL_ok {ps qs : List L} {lo hi : List Int} {out mn mx : Int} (h : dfc ps qs lo hi out mn mx = 0) : dfL ps qs lo hi out mn mx = (allS lo hi).find? (fun s => !eqP ps qs out s) := by unfold dfL; rw [if_pos h]
theorem dfL_self (ps : List L) (lo hi : List Int) (out mn mx : Int) : dfL ps ps lo hi out mn mx = none := by
  unfold dfL
  split
  · rw [List.find?_eq_none]; intro s _; simp [eqP]
  · rfl
theorem find_at {α : Type} {p : α → Bool} : ∀ {xs : List α} {k : Nat} {x : α}, xs[k]? = some x → p x = true → (∀ j y, j < k → xs[j]? = some y → p y = false) → xs.find? p = some x
  | [], _, _, h, _, _ => by simp at h
  | y :: t, 0, x, h, hp, _ => by
    simp at h; subst h
    rw [List.find?_cons, hp]
  | y :: t, k + 1, x, h, hp, hn => by
    rw [List.find?_cons, hn 0 y (by omega) rfl]
    exact find_at (k := k) (by simpa using h) hp (fun j z hj hz => hn (j + 1) z (by omega) (by simpa using hz))
theorem find_no {α : Type} {p : α → Bool} {xs : List α} (h : ∀ j y, j < xs.length → xs[j]? = some y → p y = false) : xs.find? p = none := by
  rw [List.find?_eq_none]
  intro x hx
  obtain ⟨j, hj, e⟩ := List.mem_iff_getElem.1 hx
  have := h j x hj (by rw [List.getElem?_eq_getElem hj, e])
  rw [this]; simp

end Go.Proofs.YtmpgaccpdglhkaaGreat

/- Bad, Extremes, Differ of package check, for all contracts. -/
set_option linter.unusedVariables false
set_option linter.unusedSimpArgs false
namespace Go.Proofs.YtmpgaccpdglhkaaGreat
open Go.RowKit Go.Shelf Tinker

theorem kpB_bdN {ps : List L} {lo hi : List Int} {out mn mx : Int} (h : vpc ps lo hi out mn mx = 0) : kpB ps lo hi out mn mx = decide (bdN ps lo hi out mn mx = 0) := by
  rw [kpB_len h, bdN_ok h]
theorem fbL_in {ps : List L} {lo hi : List Int} {out mn mx : Int} {s : List Int} (h : fbL ps lo hi out mn mx = some s) : s ∈ allS lo hi ∧ gdP ps out mn mx s = false := by
  unfold fbL at h
  split at h
  · exact ⟨List.mem_of_find?_eq_some h, by simpa using List.find?_some h⟩
  · contradiction
theorem fbL_len (ps : List L) (lo hi : List Int) (out mn mx : Int) : ((fbL ps lo hi out mn mx).getD []).length ≤ 4 := by
  cases h : fbL ps lo hi out mn mx with
  | none => simp
  | some s => rw [show (some s).getD [] = s from rfl, (exTo_in lo hi 4 s (fbL_in h).1).1]; exact Nat.le_refl _
theorem dfL_len (ps qs : List L) (lo hi : List Int) (out mn mx : Int) : ((dfL ps qs lo hi out mn mx).getD []).length ≤ 4 := by
  cases h : dfL ps qs lo hi out mn mx with
  | none => simp
  | some s =>
    unfold dfL at h
    split at h
    · rw [show (some s).getD [] = s from rfl, (exTo_in lo hi 4 s (List.mem_of_find?_eq_some h)).1]; exact Nat.le_refl _
    · contradiction

end Go.Proofs.YtmpgaccpdglhkaaGreat

/- Extremes of package check, for all contracts. -/
set_option linter.unusedVariables false
set_option linter.unusedSimpArgs false
namespace Go.Proofs.YtmpgaccpdglhkaaGreat
open Go.RowKit Go.Shelf Tinker

/-- What the extremes tell. -/
theorem xtl_iff (ps : List L) (out mn mx : Int) : ∀ (l : List (List Int)), mn ≤ (xtl ps out l).1 ↔ (mn ≤ 999 ∧ ∀ s ∈ l, mn ≤ endP ps s out) := by
  intro l
  have h : ∀ (l : List (List Int)) (p : Int × Int), mn ≤ (l.foldl (fun p s => (min p.1 (endP ps s out), max p.2 (endP ps s out))) p).1 ↔ (mn ≤ p.1 ∧ ∀ s ∈ l, mn ≤ endP ps s out) := by
    intro l
    induction l with
    | nil => intro p; simp
    | cons x t ih =>
      intro p
      rw [List.foldl_cons, ih]
      simp only [List.mem_cons, forall_eq_or_imp]
      rw [show (mn ≤ min p.1 (endP ps x out)) ↔ (mn ≤ p.1 ∧ mn ≤ endP ps x out) by omega]
      exact ⟨fun ⟨⟨a, b⟩, c⟩ => ⟨a, b, c⟩, fun ⟨a, b, c⟩ => ⟨⟨a, b⟩, c⟩⟩
  exact h l _
theorem xtl_iff2 (ps : List L) (out mn mx : Int) : ∀ (l : List (List Int)), (xtl ps out l).2 ≤ mx ↔ (-999 ≤ mx ∧ ∀ s ∈ l, endP ps s out ≤ mx) := by
  intro l
  have h : ∀ (l : List (List Int)) (p : Int × Int), (l.foldl (fun p s => (min p.1 (endP ps s out), max p.2 (endP ps s out))) p).2 ≤ mx ↔ (p.2 ≤ mx ∧ ∀ s ∈ l, endP ps s out ≤ mx) := by
    intro l
    induction l with
    | nil => intro p; simp
    | cons x t ih =>
      intro p
      rw [List.foldl_cons, ih]
      simp only [List.mem_cons, forall_eq_or_imp]
      rw [show (max p.2 (endP ps x out) ≤ mx) ↔ (p.2 ≤ mx ∧ endP ps x out ≤ mx) by omega]
      exact ⟨fun ⟨⟨a, b⟩, c⟩ => ⟨a, b, c⟩, fun ⟨a, b, c⟩ => ⟨⟨a, b⟩, c⟩⟩
  exact h l _
theorem xtl_le (ps : List L) (out : Int) (l : List (List Int)) (h : l ≠ []) : (xtl ps out l).1 ≤ (xtl ps out l).2 := by
  obtain ⟨s, t, rfl⟩ := List.exists_cons_of_ne_nil h
  have h1 := ((xtl_iff ps out (xtl ps out (s :: t)).1 0 (s :: t)).1 (Int.le_refl _)).2 s (by simp)
  have h2 := ((xtl_iff2 ps out 0 (xtl ps out (s :: t)).2 (s :: t)).1 (Int.le_refl _)).2 s (by simp)
  omega
theorem allS_ne {lo hi : List Int} (hc : OkC lo hi) : allS lo hi ≠ [] := by
  obtain ⟨_, tl, hh⟩ := exTo_chn lo hi hc.l4 hc.le 4 (Nat.le_refl _)
  unfold allS; rw [hh]; simp
theorem exV_le {ps : List L} {lo hi : List Int} {out mn mx : Int} (h : vpc ps lo hi out mn mx = 0) : (exV ps lo hi out mn mx).1 ≤ (exV ps lo hi out mn mx).2 := by
  rw [exV_ok h]; exact xtl_le _ _ _ (allS_ne (okC_of (vcon_ok (vpc_ok h).2).1))
theorem kpB_exV {ps : List L} {lo hi : List Int} {out mn mx : Int} (h : vpc ps lo hi out mn mx = 0) : kpB ps lo hi out mn mx = (decide (mn ≤ (exV ps lo hi out mn mx).1) && decide ((exV ps lo hi out mn mx).2 ≤ mx)) := by
  have hcon := (vcon_ok (vpc_ok h).2).1
  obtain ⟨_, _, _, _, hb1, hb2, hb3⟩ := isCon_ok hcon
  have hb1 := btw_true.1 hb1
  have hb2 := btw_true.1 hb2
  rw [exV_ok h, kpB_ok h, fbL_ok h]
  rw [Bool.eq_iff_iff, Bool.and_eq_true, decide_eq_true_eq, decide_eq_true_eq, xtl_iff ps out mn mx, xtl_iff2 ps out mn mx]
  rw [Bool.not_eq_true', Option.isSome_eq_false_iff, Option.isNone_iff_eq_none, List.find?_eq_none]
  constructor
  · intro hg
    have hg2 : ∀ s ∈ allS lo hi, mn ≤ endP ps s out ∧ endP ps s out ≤ mx := fun s hs => btw_true.1 (by simpa [gdP] using hg s hs)
    refine ⟨⟨?_, fun s hs => (hg2 s hs).1⟩, ?_, fun s hs => (hg2 s hs).2⟩ <;> omega
  · rintro ⟨⟨_, h1⟩, _, h2⟩ s hs
    have : gdP ps out mn mx s = true := btw_true.2 ⟨h1 s hs, h2 s hs⟩
    simp [this]

end Go.Proofs.YtmpgaccpdglhkaaGreat
