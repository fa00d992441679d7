/- validateContract, firstBad, Keeps, First of package check: contracts. -/
import Derived.Test.YtdcoebeffbkpnaaGdA
set_option linter.unusedVariables false
set_option linter.unusedSimpArgs false
namespace Go.Proofs.Ytdcoebeffbkpnaa
open Go.RowKit Go.Shelf Tinker

set_option maxRecDepth 100000 in
set_option maxHeartbeats 1000000 in
theorem validateContractP_any (a a1 b1 : Option Addr) (ca c1 c2 : Nat) (ps : List L) (lo hi : List Int) (out mn mx : Int) (w : World) (hp : LinesAt w a ps) (hl : IntsAt w a1 lo) (hh : IntsAt w b1 hi) (hm : lo.length ≤ 1000) (hm2 : hi.length ≤ 1000) :
    Calls Try.prog 35 #[.slice a ps.length ca, .agg #[.slice a1 lo.length c1, .slice b1 hi.length c2, .int .i64 out, .int .i64 mn, .int .i64 mx]] w fun e w' => e = .returned (.int .i64 (vpc ps lo hi out mn mx)) ∧ Below w.heap.size w w' := by
  have H1 := Lib.hid (fun w hp => validate_any a ca ps w hp)
  have H2 := Lib.hid (fun w hl hh => validateContract_C a1 b1 c1 c2 lo hi out mn mx w hl hh hm hm2)
  have hI := (boxC_new (a := a1) (b := b1) (n := lo.length) (m := hi.length) (ca := c1) (cb := c2) (out := out) (mn := mn) (mx := mx) w).drew
  have x0 := hI.c0
  have x1 := hI.c1
  have x2 := hI.c2
  have x3 := hI.c3
  have x4 := hI.c4
  have HP := Lib.hid hp
  have HL := Lib.hid hl
  have HH := Lib.hid hh
  unfold vpc
  generalize vp ps = v1 at H1
  generalize vcon lo hi out mn mx = v2 at H2
  clear hp hl hh hm hm2
  go_enter Try.func35, Try.ntmps35
  go_wp2_with fail
  go_region_with (first | (go_at_call 44; refine (H1.out _ ?_).mono ?_; exact HP.out.below hI.below (Nat.le_refl _); rintro e wa ⟨rfl, hBa⟩; replace hI := hI.low hBa; clear hBa x0 x1 x2 x3 x4; have x0 := hI.c0; have x1 := hI.c1; have x2 := hI.c2; have x3 := hI.c3; have x4 := hI.c4) | (go_at_call 41; refine (H2.out _ ?_ ?_).mono ?_; exact HL.out.below hI.below (Nat.le_refl _); exact HH.out.below hI.below (Nat.le_refl _); rintro e wb ⟨rfl, hBb⟩; replace hI := hI.low hBb; clear hBb x0 x1 x2 x3 x4; have x0 := hI.c0; have x1 := hI.c1; have x2 := hI.c2; have x3 := hI.c3; have x4 := hI.c4) | (go_at_call 43; refine (firstError_two _ _ _ _).mono ?_; rintro e wc ⟨rfl, rfl⟩))
  all_goals go_wp2_with fail
  all_goals go_ret
  all_goals exact ⟨rfl, (hI.low ((Below.refl _ _).alloc (Nat.le_refl _) _)).below⟩

set_option maxRecDepth 100000 in
set_option maxHeartbeats 1000000 in
theorem firstBad_any (a : Option Addr) (ca lb lf hb hf c1 c2 : Nat) (ps : List L) (lo hi : List Int) (out mn mx : Int) (w : World) (hp : LinesAt w a ps) (hlb : lb < w.heap.size) (hhb : hb < w.heap.size)
    (hl : ∀ j n, lo[j]? = some n → w.cell? ⟨lb, lf + j, none⟩ = some (.int .i64 n)) (hh : ∀ j n, hi[j]? = some n → w.cell? ⟨hb, hf + j, none⟩ = some (.int .i64 n)) (hc : OkC lo hi) (hv : vp ps = 0) (ho : isReg out = true) :
    Calls Try.prog 36 #[.slice a ps.length ca, .agg #[.slice (some ⟨lb, lf, none⟩) 4 c1, .slice (some ⟨hb, hf, none⟩) 4 c2, .int .i64 out, .int .i64 mn, .int .i64 mx]] w (GivesFind ((allS lo hi).find? fun s => !gdP ps out mn mx s) w) := by
  have hb1 : Below w.heap.size w ((w.alloc (.cells #[.slice a ps.length ca] 32)).alloc (.cells #[.slice (some ⟨lb, lf, none⟩) 4 c1, .slice (some ⟨hb, hf, none⟩) 4 c2, .int .i64 out, .int .i64 mn, .int .i64 mx] 36)) := ((Below.refl _ _).alloc (Nat.le_refl _) _).alloc (by simp) _
  have hP : ((w.alloc (.cells #[.slice a ps.length ca] 32)).alloc (.cells #[.slice (some ⟨lb, lf, none⟩) 4 c1, .slice (some ⟨hb, hf, none⟩) 4 c2, .int .i64 out, .int .i64 mn, .int .i64 mx] 36)).heap[w.heap.size]? = some (.cells #[.slice a ps.length ca] 32 (0, 0)) := hp_alloc (hp_new rfl)
  have hC : ((w.alloc (.cells #[.slice a ps.length ca] 32)).alloc (.cells #[.slice (some ⟨lb, lf, none⟩) 4 c1, .slice (some ⟨hb, hf, none⟩) 4 c2, .int .i64 out, .int .i64 mn, .int .i64 mx] 36)).heap[w.heap.size + 1]? = some (.cells #[.slice (some ⟨lb, lf, none⟩) 4 c1, .slice (some ⟨hb, hf, none⟩) 4 c2, .int .i64 out, .int .i64 mn, .int .i64 mx] 36 (0, 0)) := hp_new (by simp)
  have HF := Lib.hid (find_first (fun s => gdP ps out mn mx s) w.heap.size (w.heap.size + 1) lb lf hb hf c1 c2 lo hi out mn mx _ hc (by simp only [World.size_alloc]; omega) (by simp only [World.size_alloc]; omega)
    (fun j n hj => (hb1.cell (p := ⟨lb, _, none⟩) hlb).trans (hl j n hj)) (fun j n hj => (hb1.cell (p := ⟨hb, _, none⟩) hhb).trans (hh j n hj))
    (fun W s b hB hs hx => clos_first _ w.heap.size (w.heap.size + 1) a (some ⟨lb, lf, none⟩) (some ⟨hb, hf, none⟩) ca 4 4 c1 c2 ps out mn mx hP hC W s b hB ((hp.below hb1 (Nat.le_refl _)).below hB (Nat.le_refl _)) hs (by unfold vr fe; rw [if_pos hv]; exact inBx_vs hc hx) hx.1 ho))
  have q0 := hp_cell hC (j := 0) (by rfl)
  have q1 := hp_cell hC (j := 1) (by rfl)
  have q2 := hp_cell hC (j := 2) (by rfl)
  have q3 := hp_cell hC (j := 3) (by rfl)
  have q4 := hp_cell hC (j := 4) (by rfl)
  have HB := Lib.hid hb1
  clear hP hC hp hlb hhb hl hh hc hv ho hb1
  go_enter Try.func36, Try.ntmps36
  go_wp2_with fail
  go_at_call 53
  refine HF.out.mono ?_
  rintro e w1 ⟨ra, rc, rfl, hi1, hB⟩
  go_wp2_with fail
  go_ret2
  exact ⟨ra, rc, rfl, hi1, HB.out.trans (hB.mono HB.out.size)⟩

/-- The first bad state. -/
def fbL (ps : List L) (lo hi : List Int) (out mn mx : Int) : Option (List Int) := if vpc ps lo hi out mn mx = 0 then (allS lo hi).find? (fun s => !gdP ps out mn mx s) else none
/-- Whether a contract is kept. -/
def kpB (ps : List L) (lo hi : List Int) (out mn mx : Int) : Bool := decide (vpc ps lo hi out mn mx = 0) && !(fbL ps lo hi out mn mx).isSome
theorem kpB_no {ps : List L} {lo hi : List Int} {out mn mx : Int} (h : vpc ps lo hi out mn mx ≠ 0) : kpB ps lo hi out mn mx = false := by unfold kpB; rw [decide_eq_false h]; rfl
theorem kpB_ok {ps : List L} {lo hi : List Int} {out mn mx : Int} (h : vpc ps lo hi out mn mx = 0) : kpB ps lo hi out mn mx = !(fbL ps lo hi out mn mx).isSome := by unfold kpB; rw [decide_eq_true h]; rfl
theorem fbL_no {ps : List L} {lo hi : List Int} {out mn mx : Int} (h : vpc ps lo hi out mn mx ≠ 0) : fbL ps lo hi out mn mx = none := by unfold fbL; rw [if_neg h]
theorem fbL_ok {ps : List L} {lo hi : List Int} {out mn mx : Int} (h : vpc ps lo hi out mn mx = 0) : fbL ps lo hi out mn mx = (allS lo hi).find? (fun s => !gdP ps out mn mx s) := by unfold fbL; rw [if_pos h]

/-- firstBad, where the contract is valid. -/
theorem firstBad_ok (a a1 b1 : Option Addr) (ca c1 c2 : Nat) (ps : List L) (lo hi : List Int) (out mn mx : Int) (hz : vpc ps lo hi out mn mx = 0) (w : World) (hp : LinesAt w a ps) (hl : IntsAt w a1 lo) (hh : IntsAt w b1 hi) :
    Calls Try.prog 36 #[.slice a ps.length ca, .agg #[.slice a1 lo.length c1, .slice b1 hi.length c2, .int .i64 out, .int .i64 mn, .int .i64 mx]] w (GivesFind (fbL ps lo hi out mn mx) w) := by
  obtain ⟨hv, hcon⟩ := vpc_ok hz
  obtain ⟨hcon, _⟩ := vcon_ok hcon
  have hc := okC_of hcon
  obtain ⟨_, _, _, ho, _⟩ := isCon_ok hcon
  have h4 := hc.l4
  have k4 := hc.h4
  obtain ⟨lb, lf, rfl, hlb, hl2⟩ := hl.resolve_left (by rintro rfl; simp at h4)
  obtain ⟨hb, hf, rfl, hhb, hh2⟩ := hh.resolve_left (by rintro rfl; simp at k4)
  rw [fbL_ok hz, h4, k4]
  exact firstBad_any a ca lb lf hb hf c1 c2 ps lo hi out mn mx w hp hlb hhb hl2 hh2 hc hv ho

set_option maxRecDepth 100000 in
set_option maxHeartbeats 1000000 in
theorem keeps_any (a a1 b1 : Option Addr) (ca c1 c2 : Nat) (ps : List L) (lo hi : List Int) (out mn mx : Int) (w : World) (hp : LinesAt w a ps) (hl : IntsAt w a1 lo) (hh : IntsAt w b1 hi) (hm : lo.length ≤ 1000) (hm2 : hi.length ≤ 1000) :
    Calls Try.prog 14 #[.slice a ps.length ca, .agg #[.slice a1 lo.length c1, .slice b1 hi.length c2, .int .i64 out, .int .i64 mn, .int .i64 mx]] w fun e w' => e = .returned (.tuple #[.bool (kpB ps lo hi out mn mx), .int .i64 (vpc ps lo hi out mn mx)]) ∧ Below w.heap.size w w' := by
  have HV := Lib.hid (fun w hp hl hh => validateContractP_any a a1 b1 ca c1 c2 ps lo hi out mn mx w hp hl hh hm hm2)
  have HF := Lib.hid (fun hz w hp hl hh => firstBad_ok a a1 b1 ca c1 c2 ps lo hi out mn mx hz w hp hl hh)
  have hI := (boxC_new (a := a1) (b := b1) (n := lo.length) (m := hi.length) (ca := c1) (cb := c2) (out := out) (mn := mn) (mx := mx) w)
  have HI := Lib.hid hI
  have x0 := hI.c0
  have x1 := hI.c1
  have x2 := hI.c2
  have x3 := hI.c3
  have x4 := hI.c4
  have HP := Lib.hid hp
  have HL := Lib.hid hl
  have HH := Lib.hid hh
  clear hp hl hh hm hm2 hI
  by_cases hz : vpc ps lo hi out mn mx = 0
  · have HF2 := Lib.hid (HF.out hz)
    rw [kpB_ok hz, hz]
    rw [hz] at HV
    generalize fbL ps lo hi out mn mx = X at HF2
    clear hz HF
    go_enter Try.func14, Try.ntmps14
    go_wp2_with fail
    refine (HV.out _ (HP.out.below HI.out.below (Nat.le_refl _)) (HL.out.below HI.out.below (Nat.le_refl _)) (HH.out.below HI.out.below (Nat.le_refl _))).mono ?_
    rintro e wa ⟨rfl, hB⟩
    have HJ := Lib.hid (HI.out.low hB)
    clear hB x0 x1 x2 x3 x4
    have x0 := HJ.out.c0
    have x1 := HJ.out.c1
    have x2 := HJ.out.c2
    have x3 := HJ.out.c3
    have x4 := HJ.out.c4
    go_wp2_with fail
    refine (HF2.out _ (HP.out.below HJ.out.below (Nat.le_refl _)) (HL.out.below HJ.out.below (Nat.le_refl _)) (HH.out.below HJ.out.below (Nat.le_refl _))).mono ?_
    rintro e wb ⟨ra, rc, rfl, hi1, hB⟩
    have HK := Lib.hid (HJ.out.low hB).below
    clear hB hi1
    go_wp2_with fail
    go_ret2
    exact ⟨by cases X <;> rfl, HK.out⟩
  · rw [kpB_no hz]
    generalize vpc ps lo hi out mn mx = V at HV hz
    have hz1 : (V != 0) = true := by simpa using hz
    have hz2 : (V == 0) = false := by simpa using hz
    clear hz HF
    go_enter Try.func14, Try.ntmps14
    go_wp2_with fail
    refine (HV.out _ (HP.out.below HI.out.below (Nat.le_refl _)) (HL.out.below HI.out.below (Nat.le_refl _)) (HH.out.below HI.out.below (Nat.le_refl _))).mono ?_
    rintro e wa ⟨rfl, hB⟩
    have HJ := Lib.hid (HI.out.low hB)
    clear hB x0 x1 x2 x3 x4
    go_wp2_with fail
    go_ret2
    exact ⟨rfl, HJ.out.below⟩

/-- What First answers. -/
def GivesFst (o : Option (List Int)) (c : Int) (w : World) (e : Ending) (w' : World) : Prop :=
  ∃ a k, e = .returned (.tuple #[.slice a (o.getD []).length k, .bool o.isSome, .int .i64 c]) ∧ IntsAt w' a (o.getD []) ∧ Below w.heap.size w w'
set_option maxRecDepth 100000 in
set_option maxHeartbeats 1000000 in
theorem firstC_any (a a1 b1 : Option Addr) (ca c1 c2 : Nat) (ps : List L) (lo hi : List Int) (out mn mx : Int) (w : World) (hp : LinesAt w a ps) (hl : IntsAt w a1 lo) (hh : IntsAt w b1 hi) (hm : lo.length ≤ 1000) (hm2 : hi.length ≤ 1000) :
    Calls Try.prog 11 #[.slice a ps.length ca, .agg #[.slice a1 lo.length c1, .slice b1 hi.length c2, .int .i64 out, .int .i64 mn, .int .i64 mx]] w (GivesFst (fbL ps lo hi out mn mx) (vpc ps lo hi out mn mx) w) := by
  have HV := Lib.hid (fun w hp hl hh => validateContractP_any a a1 b1 ca c1 c2 ps lo hi out mn mx w hp hl hh hm hm2)
  have HF := Lib.hid (fun hz w hp hl hh => firstBad_ok a a1 b1 ca c1 c2 ps lo hi out mn mx hz w hp hl hh)
  have hI := (boxC_new (a := a1) (b := b1) (n := lo.length) (m := hi.length) (ca := c1) (cb := c2) (out := out) (mn := mn) (mx := mx) w)
  have HI := Lib.hid hI
  have x0 := hI.c0
  have x1 := hI.c1
  have x2 := hI.c2
  have x3 := hI.c3
  have x4 := hI.c4
  have HP := Lib.hid hp
  have HL := Lib.hid hl
  have HH := Lib.hid hh
  clear hp hl hh hm hm2 hI
  by_cases hz : vpc ps lo hi out mn mx = 0
  · have HF2 := Lib.hid (HF.out hz)
    rw [hz]
    rw [hz] at HV
    generalize fbL ps lo hi out mn mx = X at HF2
    clear hz HF
    go_enter Try.func11, Try.ntmps11
    go_wp2_with fail
    refine (HV.out _ (HP.out.below HI.out.below (Nat.le_refl _)) (HL.out.below HI.out.below (Nat.le_refl _)) (HH.out.below HI.out.below (Nat.le_refl _))).mono ?_
    rintro e wa ⟨rfl, hB⟩
    have HJ := Lib.hid (HI.out.low hB)
    clear hB x0 x1 x2 x3 x4
    have x0 := HJ.out.c0
    have x1 := HJ.out.c1
    have x2 := HJ.out.c2
    have x3 := HJ.out.c3
    have x4 := HJ.out.c4
    go_wp2_with fail
    refine (HF2.out _ (HP.out.below HJ.out.below (Nat.le_refl _)) (HL.out.below HJ.out.below (Nat.le_refl _)) (HH.out.below HJ.out.below (Nat.le_refl _))).mono ?_
    rintro e wb ⟨ra, rc, rfl, hi1, hB⟩
    have HK := Lib.hid (HJ.out.low hB).below
    have HX := Lib.hid hi1
    clear hB hi1
    go_wp2_with fail
    go_ret3
    exact ⟨ra, rc, rfl, HX.out, HK.out⟩
  · rw [fbL_no hz]
    generalize vpc ps lo hi out mn mx = V at HV hz
    have hz1 : (V != 0) = true := by simpa using hz
    have hz2 : (V == 0) = false := by simpa using hz
    clear hz HF
    go_enter Try.func11, Try.ntmps11
    go_wp2_with fail
    refine (HV.out _ (HP.out.below HI.out.below (Nat.le_refl _)) (HL.out.below HI.out.below (Nat.le_refl _)) (HH.out.below HI.out.below (Nat.le_refl _))).mono ?_
    rintro e wa ⟨rfl, hB⟩
    have HJ := Lib.hid (HI.out.low hB)
    clear hB x0 x1 x2 x3 x4
    go_wp2_with fail
    go_ret3
    exact ⟨none, 0, rfl, .inl rfl, HJ.out.below⟩

end Go.Proofs.Ytdcoebeffbkpnaa
