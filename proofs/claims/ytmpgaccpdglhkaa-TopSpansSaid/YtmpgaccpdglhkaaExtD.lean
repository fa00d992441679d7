/- Several texts in one. -/
import Derived.Test.YtmpgaccpdglhkaaGdB
import Derived.Test.YtmpgaccpdglhkaaStC
import Derived.Test.YtmpgaccpdglhkaaChkP
import Derived.Sort.CutIn
/- The document's bad states: contract. -/
set_option linter.unusedVariables false
set_option linter.unusedSimpArgs false
namespace Go.Proofs.Ytmpgaccpdglhkaa
open Go.RowKit Tinker

/-- The bad states. -/
def bdS (ps : List L) (lo hi : List Int) (out mn mx : Int) : List (List Int) := (allS lo hi).filter fun s => !gdP ps out mn mx s
theorem take_more {α : Type} {xs : List α} {k : Nat} {x : α} (h : xs[k]? = some x) : xs.take (k + 1) = xs.take k ++ [x] := by
  rw [List.take_add_one, h]; rfl
theorem filt_yes {α : Type} {p : α → Bool} {xs : List α} {k : Nat} {x : α} (h : xs[k]? = some x) (hp : p x = true) : (xs.take (k + 1)).filter p = (xs.take k).filter p ++ [x] := by
  rw [take_more h, List.filter_append]; simp [hp]
theorem filt_no {α : Type} {p : α → Bool} {xs : List α} {k : Nat} {x : α} (h : xs[k]? = some x) (hp : p x = false) : (xs.take (k + 1)).filter p = (xs.take k).filter p := by
  rw [take_more h, List.filter_append]; simp [hp]
theorem filt_le {α : Type} (p : α → Bool) (xs : List α) (k : Nat) : ((xs.take k).filter p).length ≤ k :=
  Nat.le_trans (List.length_filter_le _ _) (by rw [List.length_take]; omega)
theorem mem_st {lo hi s : List Int} (hc : OkC lo hi) {k : Nat} (h : (allS lo hi)[k]? = some s) : inBx lo hi 4 s ∧ vs s = 0 :=
  have h1 := exTo_in lo hi 4 s (mem_of_get h)
  ⟨h1, inBx_vs hc h1⟩

end Go.Proofs.Ytmpgaccpdglhkaa

/- Contracts of the document: contracted, Keeps, Bad, First. -/
set_option linter.unusedVariables false
set_option linter.unusedSimpArgs false
namespace Go.Proofs.Ytmpgaccpdglhkaa
open Go.RowKit Tinker

set_option maxRecDepth 100000 in
set_option maxHeartbeats 400000 in
theorem rContracted_any (a a1 b1 : Option Addr) (ca c1 c2 : Nat) (ps : List L) (lo hi : List Int) (out mn mx : Int) (w : World) (hp : LinesAt w a ps) (hl : IntsAt w a1 lo) (hh : IntsAt w b1 hi) :
    Calls Try.prog 99 #[.slice a ps.length ca, .agg #[.slice a1 lo.length c1, .slice b1 hi.length c2, .int .i64 out, .int .i64 mn, .int .i64 mx]] w fun e w' => e = .returned (.int .i64 (vpc ps lo hi out mn mx)) ∧ Below w.heap.size w w' := by
  have HV := Lib.hid (fun w hp => rValidate_any a ca ps w hp)
  have HS := Lib.hid (fun w hl hh => rValidateContract_any a1 b1 c1 c2 lo hi out mn mx w hl hh)
  have hI := (boxC_new (a := a1) (b := b1) (n := lo.length) (m := hi.length) (ca := c1) (cb := c2) (out := out) (mn := mn) (mx := mx) w)
  have HI := Lib.hid hI
  have x0 := hI.c0
  have x1 := hI.c1
  have x2 := hI.c2
  have x3 := hI.c3
  have x4 := hI.c4
  have HP := Lib.hid hp
  have HL := Lib.hid hl
  have HH := Lib.hid hh
  clear hp hl hh hI
  by_cases h : vp ps = 0
  · have HE := Lib.hid (show vpc ps lo hi out mn mx = vcon lo hi out mn mx by unfold vpc fe; rw [if_pos h])
    rw [HE.out]
    rw [h] at HV
    generalize vcon lo hi out mn mx = K at HS
    clear h HE
    go_enter Try.func99, Try.ntmps99
    go_wp2_with fail
    refine (HV.out _ (HP.out.below HI.out.below (Nat.le_refl _))).mono ?_
    rintro e w1 ⟨rfl, hB⟩
    have HJ := Lib.hid (HI.out.low hB)
    clear hB x0 x1 x2 x3 x4
    have x0 := HJ.out.c0
    have x1 := HJ.out.c1
    have x2 := HJ.out.c2
    have x3 := HJ.out.c3
    have x4 := HJ.out.c4
    go_wp2_with fail
    refine (HS.out _ (HL.out.below HJ.out.below (Nat.le_refl _)) (HH.out.below HJ.out.below (Nat.le_refl _))).mono ?_
    rintro e w2 ⟨rfl, hB⟩
    have HK := Lib.hid (HJ.out.low hB)
    clear hB x0 x1 x2 x3 x4
    go_wp2_with fail
    go_ret
    exact ⟨rfl, HK.out.below⟩
  · have HE := Lib.hid (show vpc ps lo hi out mn mx = vp ps by unfold vpc fe; rw [if_neg h])
    rw [HE.out]
    generalize vp ps = c at HV h
    have hz1 : (c != 0) = true := by simpa using h
    have hz2 : (c == 0) = false := by simpa using h
    clear h HE
    go_enter Try.func99, Try.ntmps99
    go_wp2_with fail
    refine (HV.out _ (HP.out.below HI.out.below (Nat.le_refl _))).mono ?_
    rintro e w1 ⟨rfl, hB⟩
    have HJ := Lib.hid (HI.out.low hB)
    clear hB x0 x1 x2 x3 x4
    go_wp2_with fail
    go_ret
    exact ⟨rfl, HJ.out.below⟩

theorem bdS_none (ps : List L) (lo hi : List Int) (out mn mx : Int) : ((allS lo hi).find? fun s => !gdP ps out mn mx s) = (bdS ps lo hi out mn mx)[0]? := by
  unfold bdS; rw [← List.head?_eq_getElem?, List.head?_filter]
/-- How many states are bad. -/
def bdN (ps : List L) (lo hi : List Int) (out mn mx : Int) : Int := if vpc ps lo hi out mn mx = 0 then ((bdS ps lo hi out mn mx).length : Int) else 0
theorem bdN_ok {ps : List L} {lo hi : List Int} {out mn mx : Int} (h : vpc ps lo hi out mn mx = 0) : bdN ps lo hi out mn mx = ((bdS ps lo hi out mn mx).length : Int) := by unfold bdN; rw [if_pos h]
theorem bdN_no {ps : List L} {lo hi : List Int} {out mn mx : Int} (h : vpc ps lo hi out mn mx ≠ 0) : bdN ps lo hi out mn mx = 0 := by unfold bdN; rw [if_neg h]
theorem kpB_len {ps : List L} {lo hi : List Int} {out mn mx : Int} (h : vpc ps lo hi out mn mx = 0) : kpB ps lo hi out mn mx = decide (((bdS ps lo hi out mn mx).length : Int) = 0) := by
  rw [kpB_ok h, fbL_ok h, bdS_none]
  cases bdS ps lo hi out mn mx with
  | nil => rfl
  | cons x t => rw [decide_eq_false (by simp; omega)]; rfl

end Go.Proofs.Ytmpgaccpdglhkaa

/- How many states are bad: Bad of package check: contract. -/
set_option linter.unusedVariables false
set_option linter.unusedSimpArgs false
namespace Go.Proofs.Ytmpgaccpdglhkaa
open Go.RowKit Go.Shelf Tinker
attribute [local go_sem] Oper.semAt_some

/-- The memory of a scan: the program, the contract. B is the size of the heap at the start. -/
structure ScnI (B : Nat) (vp : Value) (vc : Array Value) (w W : World) : Prop where
  bp : W.heap[B]? = some (.cells #[vp] 22 (0, 0))
  bc : W.heap[B + 1]? = some (.cells vc 40 (0, 0))
  below : Below w.heap.size w W
theorem ScnI.lowB {B : Nat} {vp : Value} {vc : Array Value} {w W W' : World} (h : ScnI B vp vc w W) {n : Nat} (hb : Below n W W') (hn : B + 2 ≤ n ∧ w.heap.size ≤ n) : ScnI B vp vc w W' :=
  ⟨hp_below h.bp hb (by omega), hp_below h.bc hb (by omega), h.below.trans (hb.mono hn.2)⟩
theorem ScnI.low {B : Nat} {vp : Value} {vc : Array Value} {w W W' : World} (h : ScnI B vp vc w W) (hb : Below W.heap.size W W') : ScnI B vp vc w W' :=
  h.lowB hb ⟨by have := hp_lt h.bc; omega, h.below.size⟩
theorem ScnI.drew {B : Nat} {vp : Value} {vc : Array Value} {w W : World} (h : ScnI B vp vc w W) : ScnI B vp vc w W.drew := ⟨hp_drew h.bp, hp_drew h.bc, h.below.drew⟩
theorem ScnI.put {B : Nat} {vp : Value} {vc : Array Value} {w W : World} (h : ScnI B vp vc w W) (hB : w.heap.size ≤ B) {K : Nat} (hK : B + 1 < K) (j : Nat) (v : Value) : ScnI B vp vc w (W.setCell ⟨K, j, none⟩ v) :=
  ⟨hp_set h.bp (by show B ≠ K; omega) _, hp_set h.bc (by show B + 1 ≠ K; omega) _, h.below.setCell (p := ⟨K, j, none⟩) (by show _ ≤ K; omega) _⟩

end Go.Proofs.Ytmpgaccpdglhkaa

/- Contracts of the document: Extremes. -/
set_option linter.unusedVariables false
set_option linter.unusedSimpArgs false
namespace Go.Proofs.Ytmpgaccpdglhkaa
open Go.RowKit Tinker

/-- The smallest and the greatest number at the end, from these states. -/
def xtl (ps : List L) (out : Int) (l : List (List Int)) : Int × Int := l.foldl (fun p s => (min p.1 (endP ps s out), max p.2 (endP ps s out))) (999, -999)
theorem xtl_snoc (ps : List L) (out : Int) (l : List (List Int)) (s : List Int) : xtl ps out (l ++ [s]) = (min (xtl ps out l).1 (endP ps s out), max (xtl ps out l).2 (endP ps s out)) := by
  unfold xtl; rw [List.foldl_append]; rfl
def exV (ps : List L) (lo hi : List Int) (out mn mx : Int) : Int × Int := if vpc ps lo hi out mn mx = 0 then xtl ps out (allS lo hi) else (0, 0)
theorem exV_ok {ps : List L} {lo hi : List Int} {out mn mx : Int} (h : vpc ps lo hi out mn mx = 0) : exV ps lo hi out mn mx = xtl ps out (allS lo hi) := by unfold exV; rw [if_pos h]
theorem exV_no {ps : List L} {lo hi : List Int} {out mn mx : Int} (h : vpc ps lo hi out mn mx ≠ 0) : exV ps lo hi out mn mx = (0, 0) := by unfold exV; rw [if_neg h]

set_option maxRecDepth 100000 in
set_option maxHeartbeats 1000000 in
theorem rExtremes_any (a a1 b1 : Option Addr) (ca c1 c2 : Nat) (ps : List L) (lo hi : List Int) (out mn mx : Int) (w : World) (hp : LinesAt w a ps) (hl : IntsAt w a1 lo) (hh : IntsAt w b1 hi) :
    Calls Try.prog 67 #[.slice a ps.length ca, .agg #[.slice a1 lo.length c1, .slice b1 hi.length c2, .int .i64 out, .int .i64 mn, .int .i64 mx]] w fun e w' => e = .returned (.tuple #[.int .i64 (exV ps lo hi out mn mx).1, .int .i64 (exV ps lo hi out mn mx).2, .int .i64 (vpc ps lo hi out mn mx)]) ∧ Below w.heap.size w w' := by
  have HV := Lib.hid (fun w hp hl hh => rContracted_any a a1 b1 ca c1 c2 ps lo hi out mn mx w hp hl hh)
  have HF := Lib.hid (fun hz w hl hh => rStates_ok a1 b1 c1 c2 lo hi out mn mx hz w hl hh)
  have hI := (boxC_new (a := a1) (b := b1) (n := lo.length) (m := hi.length) (ca := c1) (cb := c2) (out := out) (mn := mn) (mx := mx) w)
  have HI := Lib.hid hI
  have x0 := hI.c0
  have x1 := hI.c1
  have x2 := hI.c2
  have x3 := hI.c3
  have x4 := hI.c4
  have HP := Lib.hid hp
  have HL := Lib.hid hl
  have HH := Lib.hid hh
  clear hp hl hh hI
  by_cases hz : vpc ps lo hi out mn mx = 0
  · obtain ⟨hv, hcon⟩ := vpc_ok hz
    have HF2 := Lib.hid (HF.out hcon)
    obtain ⟨hcon2, hN⟩ := vcon_ok hcon
    have hc := okC_of hcon2
    obtain ⟨_, _, _, ho, _⟩ := isCon_ok hcon2
    have HMS := Lib.hid (fun (k : Nat) (s : List Int) (h : (allS lo hi)[k]? = some s) => show vr ps s = 0 by unfold vr fe; rw [if_pos hv]; exact (mem_st hc h).2)
    have HO := Lib.hid ho
    have hlen : (allS lo hi).length ≤ 400 := by
      have := exTo_len (lo := lo) (hi := hi) 4 (fun j hj => hc.le j hj)
      unfold allS; omega
    rw [exV_ok hz, hz]
    rw [hz] at HV
    generalize allS lo hi = ss at *
    clear hz HF hv hcon hcon2 hN hc ho
    go_enter Try.func67, Try.ntmps67
    go_wp2_with fail
    refine (HV.out _ (HP.out.below HI.out.below (Nat.le_refl _)) (HL.out.below HI.out.below (Nat.le_refl _)) (HH.out.below HI.out.below (Nat.le_refl _))).mono ?_
    rintro e wa ⟨rfl, hB⟩
    have HJ := Lib.hid (HI.out.low hB)
    clear hB x0 x1 x2 x3 x4
    have x0 := HJ.out.c0
    have x1 := HJ.out.c1
    have x2 := HJ.out.c2
    have x3 := HJ.out.c3
    have x4 := HJ.out.c4
    go_wp2_with fail
    refine (HF2.out _ (HL.out.below HJ.out.below (Nat.le_refl _)) (HH.out.below HJ.out.below (Nat.le_refl _))).mono ?_
    rintro e wl ⟨la, lc, rfl, hR, hB⟩
    have HIL := Lib.hid (HJ.out.low hB)
    have HR := Lib.hid hR
    clear hR hB x0 x1 x2 x3 x4 HF2 HJ HI
    go_wp2_with fail
    go_loopw [8, 9, 11] (fun s8 s9 s11 wr => ∃ (k : Nat), k ≤ ss.length ∧ s11 = .int .i64 k ∧ s8 = .int .i64 (xtl ps out (ss.take k)).1 ∧ s9 = .int .i64 (xtl ps out (ss.take k)).2 ∧ Below wl.heap.size wl wr) (fun _ _ s11 _ => ss.length - (intOf s11).toNat)
    case atStart => exact ⟨0, Nat.zero_le _, rfl, rfl, rfl, Below.refl _ _⟩
    case round =>
      obtain ⟨k, hk, rfl, rfl, rfl, hJ⟩ := hrel
      by_cases hlt : k < ss.length
      · obtain ⟨gb, go, s, a', c', rfl, hgb, hs, cg, hsi⟩ := HR.out.at_ hlt
        have HIR := Lib.hid (HIL.out.low hJ)
        have hzr := HMS.out k s hs
        have HE := Lib.hid (fun w hp hs => rMade_any a a' ca c' ps s out w hp hs hzr HO.out)
        have cg1 := (hJ.cell (p := ⟨gb, _, none⟩) hgb).trans cg
        have hgw := Nat.lt_of_lt_of_le hgb hJ.size
        have y2 := HIR.out.c2
        have hlx := hp_lt HIR.out.bl
        have HPR := Lib.hid (HP.out.below HIR.out.below (Nat.le_refl _))
        have HSR := Lib.hid (hsi.below hJ (Nat.le_refl _))
        have HX := Lib.hid (show xtl ps out (ss.take (k + 1)) = (min (xtl ps out (ss.take k)).1 (endP ps s out), max (xtl ps out (ss.take k)).2 (endP ps s out)) by rw [take_more hs, xtl_snoc])
        generalize xtl ps out (ss.take k) = p0 at HX ⊢
        obtain ⟨m0, n0⟩ := p0
        generalize endP ps s out = V at HE HX
        have HJ := Lib.hid hJ
        clear hs hJ hzr hsi cg
        go_upto_region 9 with fail
        go_cut [12] (fun s12 wx => s12 = .int .i64 V ∧ Below wr.heap.size wr wx)
        case first =>
          go_region_held3 (fun w' => w'.cell? ⟨gb, go + k, none⟩ = some (.slice a' s.length c') ∧ w'.cell? ⟨w.heap.size, 2, none⟩ = some (.int .i64 out)) (first | exact ⟨cg1, y2⟩ | exact ⟨(hBa.cell (p := ⟨gb, _, none⟩) hgw).trans cg1, (hBa.cell (p := ⟨w.heap.size, _, none⟩) hlx).trans y2⟩ | go_keep) ((go_at_call 101; refine (HE.out _ ?_ ?_).mono ?_; exact (HPR.out.below (Below.refl _ _).drew (Nat.le_refl _)); exact (HSR.out.below (Below.refl _ _).drew (Nat.le_refl _)); rintro e wa ⟨rfl, hBa⟩))
          all_goals go_wp2_with fail
          all_goals go_meet
          all_goals exact ⟨rfl, (Below.refl _ _).drew.trans hBa⟩
        case rest =>
          obtain ⟨rfl, hB2⟩ := hcut
          have HJ2 := Lib.hid (HJ.out.trans (hB2.mono HJ.out.size))
          clear HJ hB2 cg1 y2 hlx HIR HPR HSR
          go_wp2_with fail
          go_roundw
          case rel => exact ⟨k + 1, by omega, by go_num, by rw [HX.out]; show Value.int _ _ = Value.int _ (min m0 V); congr 1; split <;> omega, by rw [HX.out]; show Value.int _ _ = Value.int _ (max n0 V); congr 1; split <;> omega, HJ2.out⟩
          case measure => simp [intOf]; omega
      · obtain rfl : k = ss.length := by omega
        rw [List.take_of_length_le (Nat.le_refl _)]
        have HB := Lib.hid (HIL.out.low hJ).below
        clear hJ
        go_wp2_with fail
        go_ret3
        exact ⟨rfl, HB.out⟩
  · rw [exV_no hz]
    generalize vpc ps lo hi out mn mx = V at HV hz
    have hz1 : (V != 0) = true := by simpa using hz
    have hz2 : (V == 0) = false := by simpa using hz
    clear hz HF
    go_enter Try.func67, Try.ntmps67
    go_wp2_with fail
    refine (HV.out _ (HP.out.below HI.out.below (Nat.le_refl _)) (HL.out.below HI.out.below (Nat.le_refl _)) (HH.out.below HI.out.below (Nat.le_refl _))).mono ?_
    rintro e wa ⟨rfl, hB⟩
    have HJ := Lib.hid (HI.out.low hB)
    clear hB x0 x1 x2 x3 x4
    go_wp2_with fail
    go_ret3
    exact ⟨rfl, HJ.out.below⟩

end Go.Proofs.Ytmpgaccpdglhkaa

/- The smallest and the greatest number: Extremes of package check: contract. -/
set_option linter.unusedVariables false
set_option linter.unusedSimpArgs false
namespace Go.Proofs.Ytmpgaccpdglhkaa
open Go.RowKit Go.Shelf Tinker
attribute [local go_sem] Oper.semAt_some

set_option maxRecDepth 100000 in
set_option maxHeartbeats 4000000 in
theorem extremes_ok (a : Option Addr) (ca lb lf hb hf c1 c2 : Nat) (ps : List L) (lo hi : List Int) (out mn mx : Int) (w : World) (hz : vpc ps lo hi out mn mx = 0) (hv : vp ps = 0) (hp : LinesAt w a ps) (hc : OkC lo hi) (ho : isReg out = true) (hlb : lb < w.heap.size) (hhb : hb < w.heap.size)
    (hl : ∀ j n, lo[j]? = some n → w.cell? ⟨lb, lf + j, none⟩ = some (.int .i64 n)) (hh : ∀ j n, hi[j]? = some n → w.cell? ⟨hb, hf + j, none⟩ = some (.int .i64 n)) (hN : (allS lo hi).length ≤ 400) :
    Calls Try.prog 29 #[.slice a ps.length ca, .agg #[.slice (some ⟨lb, lf, none⟩) 4 c1, .slice (some ⟨hb, hf, none⟩) 4 c2, .int .i64 out, .int .i64 mn, .int .i64 mx]] w fun e w' => e = .returned (.tuple #[.int .i64 (xtl ps out (allS lo hi)).1, .int .i64 (xtl ps out (allS lo hi)).2, .int .i64 0]) ∧ Below w.heap.size w w' := by
  have h4 := hc.l4
  have k4 := hc.h4
  have HV := Lib.hid (fun w hp hl hh => validateContractP_any a (some ⟨lb, lf, none⟩) (some ⟨hb, hf, none⟩) ca c1 c2 ps lo hi out mn mx w hp hl hh (by omega) (by omega))
  rw [hz, h4, k4] at HV
  have HG := Lib.hid (fun (s : List Int) (b : Nat) (w : World) (hx : inBx lo hi 4 s) (hp : LinesAt w a ps) (hs : IntsAt w (some ⟨b, 0, none⟩) s) => show Calls Try.prog 69 #[.slice a ps.length ca, .slice (some ⟨b, 0, none⟩) 4 4, .int .i64 out] w (fun e w' => e = .returned (.int .i64 (endP ps s out)) ∧ Below w.heap.size w w') by
    have h := end_any a (some ⟨b, 0, none⟩) ca 4 ps s out w hp hs (by unfold vr fe; rw [if_pos hv]; exact inBx_vs hc hx) ho
    rw [hx.1] at h
    exact h)
  have HL := Lib.hid hl
  have HH := Lib.hid hh
  have HC := Lib.hid hc
  have HP := Lib.hid hp
  have HNN := Lib.hid hN
  have HLB := Lib.hid hlb
  have HHB := Lib.hid hhb
  clear hz hv hp hc ho hl hh h4 k4 hN
  have hI0 : ScnI w.heap.size (.slice a ps.length ca) #[.slice (some ⟨lb, lf, none⟩) 4 c1, .slice (some ⟨hb, hf, none⟩) 4 c2, .int .i64 out, .int .i64 mn, .int .i64 mx] w ((w.alloc (.cells #[.slice a ps.length ca] 22)).alloc (.cells #[.slice (some ⟨lb, lf, none⟩) 4 c1, .slice (some ⟨hb, hf, none⟩) 4 c2, .int .i64 out, .int .i64 mn, .int .i64 mx] 40)) :=
    ⟨hp_alloc (hp_new rfl), hp_new (by simp), ((Below.refl _ _).alloc (Nat.le_refl _) _).alloc (by simp) _⟩
  have HI0 := Lib.hid hI0
  have x0 := hp_cell hI0.bp (j := 0) (by rfl)
  have y0 := hp_cell hI0.bc (j := 0) (by rfl)
  have y1 := hp_cell hI0.bc (j := 1) (by rfl)
  have y2 := hp_cell hI0.bc (j := 2) (by rfl)
  have y3 := hp_cell hI0.bc (j := 3) (by rfl)
  have y4 := hp_cell hI0.bc (j := 4) (by rfl)
  clear hI0
  refine (callsIn_wide (n := 4)).1 ?_
  refine callsIn_of_wp_marks Try.func29 rfl trivial ?_
  simp only [Try.ntmps29, List.size_toArray, List.length_cons, List.length_nil, Nat.reduceAdd, Nat.reduceSub, Array.replicate_succ, Array.replicate_zero, List.push_toArray, List.append_toArray, List.nil_append, List.cons_append]
  gi_wp2_with fail
  refine ⟨trivial, ?_⟩
  gi_at_call 64
  refine (callsIn_wide.2 (HV.out _ (HP.out.below HI0.out.below (Nat.le_refl _)) (.inr ⟨lb, lf, rfl, Nat.lt_of_lt_of_le HLB.out HI0.out.below.size, fun j n hj => (HI0.out.below.cell (p := ⟨lb, _, none⟩) HLB.out).trans (HL.out j n hj)⟩) (.inr ⟨hb, hf, rfl, Nat.lt_of_lt_of_le HHB.out HI0.out.below.size, fun j n hj => (HI0.out.below.cell (p := ⟨hb, _, none⟩) HHB.out).trans (HH.out j n hj)⟩))).mono ?_
  rintro e w2 ⟨rfl, hB⟩
  have HI2 := Lib.hid (HI0.out.low hB)
  clear hB x0 y0 y1 y2 y3 y4 HI0
  have y0 := hp_cell HI2.out.bc (j := 0) (by rfl)
  have y1 := hp_cell HI2.out.bc (j := 1) (by rfl)
  have y2 := hp_cell HI2.out.bc (j := 2) (by rfl)
  have y3 := hp_cell HI2.out.bc (j := 3) (by rfl)
  have y4 := hp_cell HI2.out.bc (j := 4) (by rfl)
  have hI3 : ScnI w.heap.size (.slice a ps.length ca) #[.slice (some ⟨lb, lf, none⟩) 4 c1, .slice (some ⟨hb, hf, none⟩) 4 c2, .int .i64 out, .int .i64 mn, .int .i64 mx] w ((w2.alloc (.cells #[.int .i64 999] 3)).alloc (.cells #[.int .i64 (-999)] 3)) := (HI2.out.low ((Below.refl _ _).alloc (Nat.le_refl _) _)).low ((Below.refl _ _).alloc (Nat.le_refl _) _)
  have z0 := hp_cell hI3.bc (j := 0) (by rfl)
  have z1 := hp_cell hI3.bc (j := 1) (by rfl)
  have z2 := hp_cell hI3.bc (j := 2) (by rfl)
  have z3 := hp_cell hI3.bc (j := 3) (by rfl)
  have z4 := hp_cell hI3.bc (j := 4) (by rfl)
  have hs2 := hp_lt HI2.out.bc
  have hsw := HI2.out.below.size
  gi_wp2_with fail
  refine ⟨trivial, ?_⟩
  gi_at_call 68
  refine (callsIn_wide.2 (states_mk _ _ _ _ _ _ _ _)).mono ?_
  rintro e w4 ⟨rfl, hw4⟩
  try simp only [World.size_alloc]
  try simp only [World.size_alloc] at hw4
  have hI4 : ScnI w.heap.size (.slice a ps.length ca) #[.slice (some ⟨lb, lf, none⟩) 4 c1, .slice (some ⟨hb, hf, none⟩) 4 c2, .int .i64 out, .int .i64 mn, .int .i64 mx] w w4 := by
    rw [← hw4]; exact ((HI2.out.low ((Below.refl _ _).alloc (Nat.le_refl _) _)).low ((Below.refl _ _).alloc (Nat.le_refl _) _)).low ((Below.refl _ _).alloc (Nat.le_refl _) _)
  have hk4 : w4.heap[w2.heap.size]? = some (.cells #[.int .i64 999] 3 (0, 0)) := by rw [← hw4]; exact hp_alloc (hp_alloc (hp_new rfl))
  have hm4 : w4.heap[w2.heap.size + 1]? = some (.cells #[.int .i64 (-999)] 3 (0, 0)) := by rw [← hw4]; exact hp_alloc (hp_new (by simp only [World.size_alloc]))
  have hbx : w4.heap[w2.heap.size + 1 + 1]? = some (.cells #[.slice (some ⟨lb, lf, none⟩) 4 c1, .slice (some ⟨hb, hf, none⟩) 4 c2, .int .i64 out, .int .i64 mn, .int .i64 mx] 40 (0, 0)) := by
    rw [← hw4]; exact hp_new (by simp only [World.size_alloc])
  have hsz : w4.heap.size = w2.heap.size + 3 := by rw [← hw4]; simp
  have HI4 := Lib.hid hI4
  have HK4 := Lib.hid hk4
  have HM4 := Lib.hid hm4
  have hws := hI4.below.size
  have hlb := HLB.out
  have hhb := HHB.out
  have hseq := states_iter 3 (by omega) (w2.heap.size + 1 + 1) lb lf hb hf c1 c2 lo hi out mn mx [w2.heap.size, w2.heap.size + 1] w4 HC.out hbx (by omega) (by omega)
    (fun j m hj => (hI4.below.cell (p := ⟨lb, _, none⟩) hlb).trans (HL.out j m hj)) (fun j m hj => (hI4.below.cell (p := ⟨hb, _, none⟩) hhb).trans (HH.out j m hj)) (by refine ⟨?_, ?_, ?_⟩ <;> simp <;> omega) (by simp; omega)
  have HSEQ := Lib.hid hseq
  clear hw4 hI4 hk4 hm4 hseq hbx y0 y1 y2 y3 y4 HI2 hI3 z0 z1 z2 z3 z4
  gi_wp2_with fail
  refine rng_law (by omega) (gf := 102) (lb := #[.pointer (some ⟨w2.heap.size + 1 + 1, 0, none⟩)]) rfl (enters_of Try.func102 (by kernel_rfl) rfl) [w2.heap.size, w2.heap.size + 1] (stRs lo hi) HSEQ.out (fun _ => rfl) (by simp; omega)
    (fun pre W => ScnI w.heap.size (.slice a ps.length ca) #[.slice (some ⟨lb, lf, none⟩) 4 c1, .slice (some ⟨hb, hf, none⟩) 4 c2, .int .i64 out, .int .i64 mn, .int .i64 mx] w W ∧ W.heap[w2.heap.size]? = some (.cells #[.int .i64 (xtl ps out (pre.map Subtype.val)).1] 3 (0, 0)) ∧ W.heap[w2.heap.size + 1]? = some (.cells #[.int .i64 (xtl ps out (pre.map Subtype.val)).2] 3 (0, 0)))
    (fun _ _ => False)
    ?hI ?hIx ⟨HI4.out, HK4.out, HM4.out⟩ ?round ?done ?stop
  case hI =>
    rintro pre A A' ⟨h1, h2, h3⟩ hb
    exact ⟨h1.lowB hb (by omega), hp_below h2 hb (by omega), hp_below h3 hb (by omega)⟩
  case hIx => rintro pre A r o h hl; exact h
  case round =>
    rintro pre x A ⟨h1, h2, h3⟩ hA hlen
    unfold encSt
    have hnx : xtl ps out ((pre ++ [x]).map Subtype.val) = (min (xtl ps out (pre.map Subtype.val)).1 (endP ps x.1 out), max (xtl ps out (pre.map Subtype.val)).2 (endP ps x.1 out)) := by
      rw [List.map_append]; exact xtl_snoc _ _ _ _
    have HNX := Lib.hid hnx
    generalize xtl ps out (pre.map Subtype.val) = p0 at h2 h3 HNX
    obtain ⟨m0, n0⟩ := p0
    try simp only at h2 h3
    have HX4 := Lib.hid x.2.1
    have HI1 := Lib.hid h1
    have HK1 := Lib.hid h2
    have HM1 := Lib.hid h3
    clear h1 h2 h3 hnx
    gi_wp2_with (refine wpListIn_store_row rfl 103 (.tmp 10) (.tmp 20) rfl A.heap.size (iv x.1) rfl rfl 103 _ (hp_new rfl) (by rw [info_stt, iv_size, HX4.out]) (by rw [iv_size, HX4.out]; rfl) (iv_one _) ?_)
    rw [row_new]
    refine ⟨(Below.refl _ _).alloc (Nat.le_refl _) _, fun A2 hb2 hs2 hk2 => ?_⟩
    try simp only [Act.put]
    have hst : A2.heap[A.heap.size]? = some (.cells (iv x.1) 103 (0, 0)) := (hk2 _ (by omega)).trans (hp_new rfl)
    have HI2 := Lib.hid ((HI1.out.lowB ((Below.refl _ _).alloc (Nat.le_refl A.heap.size) _) ⟨by omega, by omega⟩).lowB hb2 ⟨by omega, by omega⟩)
    have HK2 := Lib.hid (hp_below (hp_alloc HK1.out) hb2 (by omega))
    have HM2 := Lib.hid (hp_below (hp_alloc HM1.out) hb2 (by omega))
    have hsz2 : A2.heap.size = A.heap.size + 1 := by rw [hs2]; try simp
    clear hb2 hs2 hk2 HI1 HK1 HM1
    have hsc : ∀ j n, x.1[j]? = some n → A2.cell? ⟨A.heap.size, 0 + j, none⟩ = some (.int .i64 n) := fun j n hj => by
      rw [Nat.zero_add]; exact hp_cell hst (by simp [iv, hj])
    have HSC := Lib.hid hsc
    have HIN := Lib.hid x.2
    clear hsc hst
    have hI := HI2.out.drew
    have c0 := hp_cell hI.bp (j := 0) (by rfl)
    have c3 := hp_cell hI.bc (j := 2) (by rfl)
    have hmx : Try.prog.follows .mixedOrders = true := by kernel_rfl
    generalize hV : endP ps x.1 out = V at HNX ⊢
    have HGV := Lib.hid (fun w hp hs => HG.out x.1 A.heap.size w HIN.out hp hs)
    rw [hV] at HGV
    clear hV
    gi_upto_region 7 with fail
    gi_cut [11] from 12 (fun s11 wx => s11 = .int .i64 V ∧ KX [w2.heap.size, w2.heap.size + 1] A2 wx ∧ ScnI w.heap.size (.slice a ps.length ca) #[.slice (some ⟨lb, lf, none⟩) 4 c1, .slice (some ⟨hb, hf, none⟩) 4 c2, .int .i64 out, .int .i64 mn, .int .i64 mx] w wx ∧ wx.heap[w2.heap.size]? = some (.cells #[.int .i64 m0] 3 (0, 0)) ∧ wx.heap[w2.heap.size + 1]? = some (.cells #[.int .i64 n0] 3 (0, 0)))
    case first =>
      rename_i J0 K0 hJ0 hK0
      clear HI2
      gi_region_with_o (refine ⟨trivial, ?_⟩; gi_at_call 69; refine (CallsIn.inRound _ (callsIn_wide.2 (HGV.out _ ?_ ?_))).mono ?_; exact HP.out.below hI.below (Nat.le_refl _); exact .inr ⟨_, _, rfl, by show _ < A2.heap.size; omega, fun j n hj => HSC.out j n hj⟩; rintro e w5 ⟨rfl, hb5⟩; replace hI := hI.low hb5; have hsz5 := hb5.size)
      all_goals clear c0 c3
      all_goals refine hK0 _ _ (Met.intro (hJ0 _ _ ?_))
      all_goals repeat apply Exists.intro
      all_goals (refine ⟨?rel, rfl⟩; (case rel => exact ⟨rfl, KX.of_below (X := [w2.heap.size, w2.heap.size + 1]) (((Below.refl A2.heap.size A2).drew).trans (by exact hb5)), hI, hp_below (hp_drew HK2.out) hb5 (by show w2.heap.size < A2.heap.size; omega), hp_below (hp_drew HM2.out) hb5 (by show w2.heap.size + 1 < A2.heap.size; omega)⟩))
    case rest =>
      obtain ⟨rfl, hKX, hI5, hK5, hM5⟩ := hcut
      have HKX := Lib.hid hKX
      have HK5 := Lib.hid hK5
      have HM5 := Lib.hid hM5
      have HI5 := Lib.hid hI5
      clear HI2 hI c0 c3 hKX hK5 hM5 hI5
      have k0 := hp_cell HK5.out (j := 0) (by rfl)
      have k1 := hp_free HK5.out 0
      have m1 := hp_cell HM5.out (j := 0) (by rfl)
      have m2 := hp_free HM5.out 0
      gi_wp2_with fail
      have hmin : (if V < m0 then V else m0) = min m0 V := by split <;> omega
      have hmax : (if n0 < V then V else n0) = max n0 V := by split <;> omega
      have HN1 := Lib.hid hmin
      have HN2 := Lib.hid hmax
      clear hmin hmax
      refine wpIn_mono (Q := fun e _ W' => e = .normal ∧ W' = (((wc.setCell ⟨w2.heap.size, 0, none⟩ (.int .i64 (min m0 V))).setCell ⟨w2.heap.size + 1, 0, none⟩ (.int .i64 (max n0 V))).drew)) ?_ ?_
      · clear HSEQ HGV HG HIN HSC HKX HK5 HM5 HI5 HNX HP HL HH HC HV HNN HI4 HK4 HM4
        gi_region_o
        all_goals exact ⟨rfl, by rw [HN1.out, HN2.out]⟩
      · rintro e a' W' ⟨rfl, rfl⟩
        refine ⟨((HKX.out.trans (KX.setCell _ (b := w2.heap.size) (by simp) 0 _)).trans (KX.setCell _ (b := w2.heap.size + 1) (by simp) 0 _)).trans (KX.of_below (Below.refl _ _).drew), ((HI5.out.put (Nat.le_refl _) (by omega) _ _).put (Nat.le_refl _) (by omega) _ _).drew, ?_, ?_⟩
        · rw [show (pre ++ [x]).unattach = (pre ++ [x]).map Subtype.val from rfl, HNX.out]; simpa using hp_drew (hp_set (hp_put HK5.out 0 (.int .i64 (min m0 V))) (p := ⟨w2.heap.size + 1, 0, none⟩) (by show _ ≠ w2.heap.size + 1; omega) (.int .i64 (max n0 V)))
        · rw [show (pre ++ [x]).unattach = (pre ++ [x]).map Subtype.val from rfl, HNX.out]; simpa using hp_drew (hp_put (hp_set HM5.out (p := ⟨w2.heap.size, 0, none⟩) (by show _ ≠ w2.heap.size; omega) (.int .i64 (min m0 V))) 0 (.int .i64 (max n0 V)))
  case done =>
    rintro W ⟨h1, h2, h3⟩ hK
    rw [stRs_map] at h2 h3
    have HI5 := Lib.hid h1
    have k0 := hp_cell h2 (j := 0) (by rfl)
    have k1 := hp_cell h3 (j := 0) (by rfl)
    clear h1 h2 h3
    gi_wp2_with fail
    gi_quiet (fail)
    gi_wp2_with fail
    refine ⟨by simp, .inl ⟨_, _, rfl, run_takeDeferred hK, ?_⟩⟩
    have hJ2 := (show ScnI _ _ _ w (W.drewN nq) from ⟨HI5.out.bp, HI5.out.bc, HI5.out.below.trans ⟨rfl, rfl, rfl, Nat.le_refl _, fun _ _ => rfl⟩⟩).lowB (below_putObj w4.heap.size (W.drewN nq) (Nat.le_refl _) (.deferred none)) ⟨by omega, by omega⟩
    exact ⟨_, results_tmp3 rfl _ _ _, rfl, hJ2.below⟩
  case stop =>
    rintro pre W hpre h hK
    exact h.elim

end Go.Proofs.Ytmpgaccpdglhkaa

/- The first state that tells two programs apart: Differ of package check: contract. -/
set_option linter.unusedVariables false
set_option linter.unusedSimpArgs false
namespace Go.Proofs.Ytmpgaccpdglhkaa
open Go.RowKit Go.Shelf Tinker
attribute [local go_sem] Oper.semAt_some

/-- Whether two programs end alike in a register. -/
def eqP (ps qs : List L) (out : Int) (s : List Int) : Bool := endP ps s out == endP qs s out

end Go.Proofs.Ytmpgaccpdglhkaa

/- Contracts of the document: Differ. -/
set_option linter.unusedVariables false
set_option linter.unusedSimpArgs false
namespace Go.Proofs.Ytmpgaccpdglhkaa
open Go.RowKit Tinker

/-- What Differ answers. -/
def dfc (ps qs : List L) (lo hi : List Int) (out mn mx : Int) : Int := fe (vp ps) (vpc qs lo hi out mn mx)
theorem dfc_ok {ps qs : List L} {lo hi : List Int} {out mn mx : Int} (h : dfc ps qs lo hi out mn mx = 0) : vp ps = 0 ∧ vpc qs lo hi out mn mx = 0 := by
  unfold dfc fe at h; split at h
  · exact ⟨by assumption, h⟩
  · contradiction
def dfL (ps qs : List L) (lo hi : List Int) (out mn mx : Int) : Option (List Int) := if dfc ps qs lo hi out mn mx = 0 then (allS lo hi).find? (fun s => !eqP ps qs out s) else none
theorem dfL_no {ps qs : List L} {lo hi : List Int} {out mn mx : Int} (h : dfc ps qs lo hi out mn mx ≠ 0) : dfL ps qs lo hi out mn mx = none := by unfold dfL; rw [if_neg h]
theorem dfL_ok {ps qs : List L} {lo hi : List Int} {out mn mx : Int} (h : dfc ps qs lo hi out mn mx = 0) : dfL ps qs lo hi out mn mx = (allS lo hi).find? (fun s => !eqP ps qs out s) := by unfold dfL; rw [if_pos h]
theorem dfL_self (ps : List L) (lo hi : List Int) (out mn mx : Int) : dfL ps ps lo hi out mn mx = none := by
  unfold dfL
  split
  · rw [List.find?_eq_none]; intro s _; simp [eqP]
  · rfl
theorem find_at {α : Type} {p : α → Bool} : ∀ {xs : List α} {k : Nat} {x : α}, xs[k]? = some x → p x = true → (∀ j y, j < k → xs[j]? = some y → p y = false) → xs.find? p = some x
  | [], _, _, h, _, _ => by simp at h
  | y :: t, 0, x, h, hp, _ => by
    simp at h; subst h
    rw [List.find?_cons, hp]
  | y :: t, k + 1, x, h, hp, hn => by
    rw [List.find?_cons, hn 0 y (by omega) rfl]
    exact find_at (k := k) (by simpa using h) hp (fun j z hj hz => hn (j + 1) z (by omega) (by simpa using hz))
theorem find_no {α : Type} {p : α → Bool} {xs : List α} (h : ∀ j y, j < xs.length → xs[j]? = some y → p y = false) : xs.find? p = none := by
  rw [List.find?_eq_none]
  intro x hx
  obtain ⟨j, hj, e⟩ := List.mem_iff_getElem.1 hx
  have := h j x hj (by rw [List.getElem?_eq_getElem hj, e])
  rw [this]; simp

end Go.Proofs.Ytmpgaccpdglhkaa

/- Bad, Extremes, Differ of package check, for all contracts. -/
set_option linter.unusedVariables false
set_option linter.unusedSimpArgs false
namespace Go.Proofs.Ytmpgaccpdglhkaa
open Go.RowKit Go.Shelf Tinker

theorem kpB_bdN {ps : List L} {lo hi : List Int} {out mn mx : Int} (h : vpc ps lo hi out mn mx = 0) : kpB ps lo hi out mn mx = decide (bdN ps lo hi out mn mx = 0) := by
  rw [kpB_len h, bdN_ok h]
theorem fbL_in {ps : List L} {lo hi : List Int} {out mn mx : Int} {s : List Int} (h : fbL ps lo hi out mn mx = some s) : s ∈ allS lo hi ∧ gdP ps out mn mx s = false := by
  unfold fbL at h
  split at h
  · exact ⟨List.mem_of_find?_eq_some h, by simpa using List.find?_some h⟩
  · contradiction
theorem fbL_len (ps : List L) (lo hi : List Int) (out mn mx : Int) : ((fbL ps lo hi out mn mx).getD []).length ≤ 4 := by
  cases h : fbL ps lo hi out mn mx with
  | none => simp
  | some s => rw [show (some s).getD [] = s from rfl, (exTo_in lo hi 4 s (fbL_in h).1).1]; exact Nat.le_refl _
theorem dfL_len (ps qs : List L) (lo hi : List Int) (out mn mx : Int) : ((dfL ps qs lo hi out mn mx).getD []).length ≤ 4 := by
  cases h : dfL ps qs lo hi out mn mx with
  | none => simp
  | some s =>
    unfold dfL at h
    split at h
    · rw [show (some s).getD [] = s from rfl, (exTo_in lo hi 4 s (List.mem_of_find?_eq_some h)).1]; exact Nat.le_refl _
    · contradiction

end Go.Proofs.Ytmpgaccpdglhkaa

/- Extremes of package check, for all contracts. -/
set_option linter.unusedVariables false
set_option linter.unusedSimpArgs false
namespace Go.Proofs.Ytmpgaccpdglhkaa
open Go.RowKit Go.Shelf Tinker

/-- What the extremes tell. -/
theorem xtl_iff (ps : List L) (out mn mx : Int) : ∀ (l : List (List Int)), mn ≤ (xtl ps out l).1 ↔ (mn ≤ 999 ∧ ∀ s ∈ l, mn ≤ endP ps s out) := by
  intro l
  have h : ∀ (l : List (List Int)) (p : Int × Int), mn ≤ (l.foldl (fun p s => (min p.1 (endP ps s out), max p.2 (endP ps s out))) p).1 ↔ (mn ≤ p.1 ∧ ∀ s ∈ l, mn ≤ endP ps s out) := by
    intro l
    induction l with
    | nil => intro p; simp
    | cons x t ih =>
      intro p
      rw [List.foldl_cons, ih]
      simp only [List.mem_cons, forall_eq_or_imp]
      rw [show (mn ≤ min p.1 (endP ps x out)) ↔ (mn ≤ p.1 ∧ mn ≤ endP ps x out) by omega]
      exact ⟨fun ⟨⟨a, b⟩, c⟩ => ⟨a, b, c⟩, fun ⟨a, b, c⟩ => ⟨⟨a, b⟩, c⟩⟩
  exact h l _
theorem xtl_iff2 (ps : List L) (out mn mx : Int) : ∀ (l : List (List Int)), (xtl ps out l).2 ≤ mx ↔ (-999 ≤ mx ∧ ∀ s ∈ l, endP ps s out ≤ mx) := by
  intro l
  have h : ∀ (l : List (List Int)) (p : Int × Int), (l.foldl (fun p s => (min p.1 (endP ps s out), max p.2 (endP ps s out))) p).2 ≤ mx ↔ (p.2 ≤ mx ∧ ∀ s ∈ l, endP ps s out ≤ mx) := by
    intro l
    induction l with
    | nil => intro p; simp
    | cons x t ih =>
      intro p
      rw [List.foldl_cons, ih]
      simp only [List.mem_cons, forall_eq_or_imp]
      rw [show (max p.2 (endP ps x out) ≤ mx) ↔ (p.2 ≤ mx ∧ endP ps x out ≤ mx) by omega]
      exact ⟨fun ⟨⟨a, b⟩, c⟩ => ⟨a, b, c⟩, fun ⟨a, b, c⟩ => ⟨⟨a, b⟩, c⟩⟩
  exact h l _
theorem xtl_le (ps : List L) (out : Int) (l : List (List Int)) (h : l ≠ []) : (xtl ps out l).1 ≤ (xtl ps out l).2 := by
  obtain ⟨s, t, rfl⟩ := List.exists_cons_of_ne_nil h
  have h1 := ((xtl_iff ps out (xtl ps out (s :: t)).1 0 (s :: t)).1 (Int.le_refl _)).2 s (by simp)
  have h2 := ((xtl_iff2 ps out 0 (xtl ps out (s :: t)).2 (s :: t)).1 (Int.le_refl _)).2 s (by simp)
  omega
theorem allS_ne {lo hi : List Int} (hc : OkC lo hi) : allS lo hi ≠ [] := by
  obtain ⟨_, tl, hh⟩ := exTo_chn lo hi hc.l4 hc.le 4 (Nat.le_refl _)
  unfold allS; rw [hh]; simp
theorem exV_le {ps : List L} {lo hi : List Int} {out mn mx : Int} (h : vpc ps lo hi out mn mx = 0) : (exV ps lo hi out mn mx).1 ≤ (exV ps lo hi out mn mx).2 := by
  rw [exV_ok h]; exact xtl_le _ _ _ (allS_ne (okC_of (vcon_ok (vpc_ok h).2).1))
theorem kpB_exV {ps : List L} {lo hi : List Int} {out mn mx : Int} (h : vpc ps lo hi out mn mx = 0) : kpB ps lo hi out mn mx = (decide (mn ≤ (exV ps lo hi out mn mx).1) && decide ((exV ps lo hi out mn mx).2 ≤ mx)) := by
  have hcon := (vcon_ok (vpc_ok h).2).1
  obtain ⟨_, _, _, _, hb1, hb2, hb3⟩ := isCon_ok hcon
  have hb1 := btw_true.1 hb1
  have hb2 := btw_true.1 hb2
  rw [exV_ok h, kpB_ok h, fbL_ok h]
  rw [Bool.eq_iff_iff, Bool.and_eq_true, decide_eq_true_eq, decide_eq_true_eq, xtl_iff ps out mn mx, xtl_iff2 ps out mn mx]
  rw [Bool.not_eq_true', Option.isSome_eq_false_iff, Option.isNone_iff_eq_none, List.find?_eq_none]
  constructor
  · intro hg
    have hg2 : ∀ s ∈ allS lo hi, mn ≤ endP ps s out ∧ endP ps s out ≤ mx := fun s hs => btw_true.1 (by simpa [gdP] using hg s hs)
    refine ⟨⟨?_, fun s hs => (hg2 s hs).1⟩, ?_, fun s hs => (hg2 s hs).2⟩ <;> omega
  · rintro ⟨⟨_, h1⟩, _, h2⟩ s hs
    have : gdP ps out mn mx s = true := btw_true.2 ⟨h1 s hs, h2 s hs⟩
    simp [this]

set_option maxRecDepth 100000 in
set_option maxHeartbeats 1000000 in
theorem extremes_any (a a1 b1 : Option Addr) (ca c1 c2 : Nat) (ps : List L) (lo hi : List Int) (out mn mx : Int) (w : World) (hp : LinesAt w a ps) (hl : IntsAt w a1 lo) (hh : IntsAt w b1 hi) (hm : lo.length ≤ 1000) (hm2 : hi.length ≤ 1000) :
    Calls Try.prog 29 #[.slice a ps.length ca, .agg #[.slice a1 lo.length c1, .slice b1 hi.length c2, .int .i64 out, .int .i64 mn, .int .i64 mx]] w fun e w' => e = .returned (.tuple #[.int .i64 (exV ps lo hi out mn mx).1, .int .i64 (exV ps lo hi out mn mx).2, .int .i64 (vpc ps lo hi out mn mx)]) ∧ Below w.heap.size w w' := by
  by_cases hz : vpc ps lo hi out mn mx = 0
  · obtain ⟨hv, hcon⟩ := vpc_ok hz
    obtain ⟨hcon, _⟩ := vcon_ok hcon
    have hc := okC_of hcon
    obtain ⟨_, _, _, ho, _⟩ := isCon_ok hcon
    have h4 := hc.l4
    have k4 := hc.h4
    have hN : (allS lo hi).length ≤ 400 := by
      have := exTo_len (lo := lo) (hi := hi) 4 (fun j hj => hc.le j hj)
      unfold allS; omega
    obtain ⟨lb, lf, rfl, hlb, hl2⟩ := hl.resolve_left (by rintro rfl; simp at h4)
    obtain ⟨hb, hf, rfl, hhb, hh2⟩ := hh.resolve_left (by rintro rfl; simp at k4)
    rw [exV_ok hz, hz, h4, k4]
    exact extremes_ok a ca lb lf hb hf c1 c2 ps lo hi out mn mx w hz hv hp hc ho hlb hhb hl2 hh2 hN
  · have HV := Lib.hid (fun w hp hl hh => validateContractP_any a a1 b1 ca c1 c2 ps lo hi out mn mx w hp hl hh hm hm2)
    rw [exV_no hz]
    have hI0 : ScnI w.heap.size (.slice a ps.length ca) #[.slice a1 lo.length c1, .slice b1 hi.length c2, .int .i64 out, .int .i64 mn, .int .i64 mx] w ((w.alloc (.cells #[.slice a ps.length ca] 22)).alloc (.cells #[.slice a1 lo.length c1, .slice b1 hi.length c2, .int .i64 out, .int .i64 mn, .int .i64 mx] 40)) :=
      ⟨hp_alloc (hp_new rfl), hp_new (by simp), ((Below.refl _ _).alloc (Nat.le_refl _) _).alloc (by simp) _⟩
    have HI0 := Lib.hid hI0
    have x0 := hp_cell hI0.bp (j := 0) (by rfl)
    have y0 := hp_cell hI0.bc (j := 0) (by rfl)
    have y1 := hp_cell hI0.bc (j := 1) (by rfl)
    have y2 := hp_cell hI0.bc (j := 2) (by rfl)
    have y3 := hp_cell hI0.bc (j := 3) (by rfl)
    have y4 := hp_cell hI0.bc (j := 4) (by rfl)
    have HP := Lib.hid hp
    have HL := Lib.hid hl
    have HH := Lib.hid hh
    generalize vpc ps lo hi out mn mx = V at HV hz
    have hz1 : (V != 0) = true := by simpa using hz
    have hz2 : (V == 0) = false := by simpa using hz
    clear hI0 hz hp hl hh hm hm2
    go_enter Try.func29, Try.ntmps29
    go_wp2_with fail
    refine (HV.out _ (HP.out.below HI0.out.below (Nat.le_refl _)) (HL.out.below HI0.out.below (Nat.le_refl _)) (HH.out.below HI0.out.below (Nat.le_refl _))).mono ?_
    rintro e wa ⟨rfl, hB⟩
    have HJ := Lib.hid (HI0.out.low hB)
    clear hB x0 y0 y1 y2 y3 y4
    go_wp2_with fail
    go_ret3
    exact ⟨rfl, HJ.out.below⟩

end Go.Proofs.Ytmpgaccpdglhkaa
