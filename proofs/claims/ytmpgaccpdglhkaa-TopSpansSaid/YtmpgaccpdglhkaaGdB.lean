/- Several texts in one. -/
import Derived.Test.YtmpgaccpdglhkaaGdA
import Derived.Test.YtmpgaccpdglhkaaStC
import Derived.Test.YtmpgaccpdglhkaaStB
/- validateContract, firstBad, Keeps, First of package check: contracts. -/
set_option linter.unusedVariables false
set_option linter.unusedSimpArgs false
namespace Go.Proofs.Ytmpgaccpdglhkaa
open Go.RowKit Go.Shelf Tinker

set_option maxRecDepth 100000 in
set_option maxHeartbeats 1000000 in
theorem validateContractP_any (a a1 b1 : Option Addr) (ca c1 c2 : Nat) (ps : List L) (lo hi : List Int) (out mn mx : Int) (w : World) (hp : LinesAt w a ps) (hl : IntsAt w a1 lo) (hh : IntsAt w b1 hi) (hm : lo.length ≤ 1000) (hm2 : hi.length ≤ 1000) :
    Calls Try.prog 64 #[.slice a ps.length ca, .agg #[.slice a1 lo.length c1, .slice b1 hi.length c2, .int .i64 out, .int .i64 mn, .int .i64 mx]] w fun e w' => e = .returned (.int .i64 (vpc ps lo hi out mn mx)) ∧ Below w.heap.size w w' := by
  have H1 := Lib.hid (fun w hp => validate_any a ca ps w hp)
  have H2 := Lib.hid (fun w hl hh => validateContract_C a1 b1 c1 c2 lo hi out mn mx w hl hh hm hm2)
  have hI := (boxC_new (a := a1) (b := b1) (n := lo.length) (m := hi.length) (ca := c1) (cb := c2) (out := out) (mn := mn) (mx := mx) w).drew
  have x0 := hI.c0
  have x1 := hI.c1
  have x2 := hI.c2
  have x3 := hI.c3
  have x4 := hI.c4
  have HP := Lib.hid hp
  have HL := Lib.hid hl
  have HH := Lib.hid hh
  unfold vpc
  generalize vp ps = v1 at H1
  generalize vcon lo hi out mn mx = v2 at H2
  clear hp hl hh hm hm2
  go_enter Try.func64, Try.ntmps64
  go_wp2_with fail
  go_region_with (first | (go_at_call 83; refine (H1.out _ ?_).mono ?_; exact HP.out.below hI.below (Nat.le_refl _); rintro e wa ⟨rfl, hBa⟩; replace hI := hI.low hBa; clear hBa x0 x1 x2 x3 x4; have x0 := hI.c0; have x1 := hI.c1; have x2 := hI.c2; have x3 := hI.c3; have x4 := hI.c4) | (go_at_call 70; refine (H2.out _ ?_ ?_).mono ?_; exact HL.out.below hI.below (Nat.le_refl _); exact HH.out.below hI.below (Nat.le_refl _); rintro e wb ⟨rfl, hBb⟩; replace hI := hI.low hBb; clear hBb x0 x1 x2 x3 x4; have x0 := hI.c0; have x1 := hI.c1; have x2 := hI.c2; have x3 := hI.c3; have x4 := hI.c4) | (go_at_call 60; refine (firstError_two _ _ _ _).mono ?_; rintro e wc ⟨rfl, rfl⟩))
  all_goals go_wp2_with fail
  all_goals go_ret
  all_goals exact ⟨rfl, (hI.low ((Below.refl _ _).alloc (Nat.le_refl _) _)).below⟩

set_option maxRecDepth 100000 in
set_option maxHeartbeats 1000000 in
theorem firstBad_any (a : Option Addr) (ca lb lf hb hf c1 c2 : Nat) (ps : List L) (lo hi : List Int) (out mn mx : Int) (w : World) (hp : LinesAt w a ps) (hlb : lb < w.heap.size) (hhb : hb < w.heap.size)
    (hl : ∀ j n, lo[j]? = some n → w.cell? ⟨lb, lf + j, none⟩ = some (.int .i64 n)) (hh : ∀ j n, hi[j]? = some n → w.cell? ⟨hb, hf + j, none⟩ = some (.int .i64 n)) (hc : OkC lo hi) (hv : vp ps = 0) (ho : isReg out = true) :
    Calls Try.prog 65 #[.slice a ps.length ca, .agg #[.slice (some ⟨lb, lf, none⟩) 4 c1, .slice (some ⟨hb, hf, none⟩) 4 c2, .int .i64 out, .int .i64 mn, .int .i64 mx]] w (GivesFind ((allS lo hi).find? fun s => !gdP ps out mn mx s) w) := by
  have hb1 : Below w.heap.size w ((w.alloc (.cells #[.slice a ps.length ca] 22)).alloc (.cells #[.slice (some ⟨lb, lf, none⟩) 4 c1, .slice (some ⟨hb, hf, none⟩) 4 c2, .int .i64 out, .int .i64 mn, .int .i64 mx] 40)) := ((Below.refl _ _).alloc (Nat.le_refl _) _).alloc (by simp) _
  have hP : ((w.alloc (.cells #[.slice a ps.length ca] 22)).alloc (.cells #[.slice (some ⟨lb, lf, none⟩) 4 c1, .slice (some ⟨hb, hf, none⟩) 4 c2, .int .i64 out, .int .i64 mn, .int .i64 mx] 40)).heap[w.heap.size]? = some (.cells #[.slice a ps.length ca] 22 (0, 0)) := hp_alloc (hp_new rfl)
  have hC : ((w.alloc (.cells #[.slice a ps.length ca] 22)).alloc (.cells #[.slice (some ⟨lb, lf, none⟩) 4 c1, .slice (some ⟨hb, hf, none⟩) 4 c2, .int .i64 out, .int .i64 mn, .int .i64 mx] 40)).heap[w.heap.size + 1]? = some (.cells #[.slice (some ⟨lb, lf, none⟩) 4 c1, .slice (some ⟨hb, hf, none⟩) 4 c2, .int .i64 out, .int .i64 mn, .int .i64 mx] 40 (0, 0)) := hp_new (by simp)
  have HF := Lib.hid (find_first (fun s => gdP ps out mn mx s) w.heap.size (w.heap.size + 1) lb lf hb hf c1 c2 lo hi out mn mx _ hc (by simp only [World.size_alloc]; omega) (by simp only [World.size_alloc]; omega)
    (fun j n hj => (hb1.cell (p := ⟨lb, _, none⟩) hlb).trans (hl j n hj)) (fun j n hj => (hb1.cell (p := ⟨hb, _, none⟩) hhb).trans (hh j n hj))
    (fun W s b hB hs hx => clos_first _ w.heap.size (w.heap.size + 1) a (some ⟨lb, lf, none⟩) (some ⟨hb, hf, none⟩) ca 4 4 c1 c2 ps out mn mx hP hC W s b hB ((hp.below hb1 (Nat.le_refl _)).below hB (Nat.le_refl _)) hs (by unfold vr fe; rw [if_pos hv]; exact inBx_vs hc hx) hx.1 ho))
  have q0 := hp_cell hC (j := 0) (by rfl)
  have q1 := hp_cell hC (j := 1) (by rfl)
  have q2 := hp_cell hC (j := 2) (by rfl)
  have q3 := hp_cell hC (j := 3) (by rfl)
  have q4 := hp_cell hC (j := 4) (by rfl)
  have HB := Lib.hid hb1
  clear hP hC hp hlb hhb hl hh hc hv ho hb1
  go_enter Try.func65, Try.ntmps65
  go_wp2_with fail
  go_at_call 96
  refine HF.out.mono ?_
  rintro e w1 ⟨ra, rc, rfl, hi1, hB⟩
  go_wp2_with fail
  go_ret2
  exact ⟨ra, rc, rfl, hi1, HB.out.trans (hB.mono HB.out.size)⟩

/-- The first bad state. -/
def fbL (ps : List L) (lo hi : List Int) (out mn mx : Int) : Option (List Int) := if vpc ps lo hi out mn mx = 0 then (allS lo hi).find? (fun s => !gdP ps out mn mx s) else none
/-- Whether a contract is kept. -/
def kpB (ps : List L) (lo hi : List Int) (out mn mx : Int) : Bool := decide (vpc ps lo hi out mn mx = 0) && !(fbL ps lo hi out mn mx).isSome
theorem kpB_no {ps : List L} {lo hi : List Int} {out mn mx : Int} (h : vpc ps lo hi out mn mx ≠ 0) : kpB ps lo hi out mn mx = false := by unfold kpB; rw [decide_eq_false h]; rfl
theorem kpB_ok {ps : List L} {lo hi : List Int} {out mn mx : Int} (h : vpc ps lo hi out mn mx = 0) : kpB ps lo hi out mn mx = !(fbL ps lo hi out mn mx).isSome := by unfold kpB; rw [decide_eq_true h]; rfl
theorem fbL_no {ps : List L} {lo hi : List Int} {out mn mx : Int} (h : vpc ps lo hi out mn mx ≠ 0) : fbL ps lo hi out mn mx = none := by unfold fbL; rw [if_neg h]
theorem fbL_ok {ps : List L} {lo hi : List Int} {out mn mx : Int} (h : vpc ps lo hi out mn mx = 0) : fbL ps lo hi out mn mx = (allS lo hi).find? (fun s => !gdP ps out mn mx s) := by unfold fbL; rw [if_pos h]

/-- firstBad, where the contract is valid. -/
theorem firstBad_ok (a a1 b1 : Option Addr) (ca c1 c2 : Nat) (ps : List L) (lo hi : List Int) (out mn mx : Int) (hz : vpc ps lo hi out mn mx = 0) (w : World) (hp : LinesAt w a ps) (hl : IntsAt w a1 lo) (hh : IntsAt w b1 hi) :
    Calls Try.prog 65 #[.slice a ps.length ca, .agg #[.slice a1 lo.length c1, .slice b1 hi.length c2, .int .i64 out, .int .i64 mn, .int .i64 mx]] w (GivesFind (fbL ps lo hi out mn mx) w) := by
  obtain ⟨hv, hcon⟩ := vpc_ok hz
  obtain ⟨hcon, _⟩ := vcon_ok hcon
  have hc := okC_of hcon
  obtain ⟨_, _, _, ho, _⟩ := isCon_ok hcon
  have h4 := hc.l4
  have k4 := hc.h4
  obtain ⟨lb, lf, rfl, hlb, hl2⟩ := hl.resolve_left (by rintro rfl; simp at h4)
  obtain ⟨hb, hf, rfl, hhb, hh2⟩ := hh.resolve_left (by rintro rfl; simp at k4)
  rw [fbL_ok hz, h4, k4]
  exact firstBad_any a ca lb lf hb hf c1 c2 ps lo hi out mn mx w hp hlb hhb hl2 hh2 hc hv ho

set_option maxRecDepth 100000 in
set_option maxHeartbeats 1000000 in
theorem keeps_any (a a1 b1 : Option Addr) (ca c1 c2 : Nat) (ps : List L) (lo hi : List Int) (out mn mx : Int) (w : World) (hp : LinesAt w a ps) (hl : IntsAt w a1 lo) (hh : IntsAt w b1 hi) (hm : lo.length ≤ 1000) (hm2 : hi.length ≤ 1000) :
    Calls Try.prog 26 #[.slice a ps.length ca, .agg #[.slice a1 lo.length c1, .slice b1 hi.length c2, .int .i64 out, .int .i64 mn, .int .i64 mx]] w fun e w' => e = .returned (.tuple #[.bool (kpB ps lo hi out mn mx), .int .i64 (vpc ps lo hi out mn mx)]) ∧ Below w.heap.size w w' := by
  have HV := Lib.hid (fun w hp hl hh => validateContractP_any a a1 b1 ca c1 c2 ps lo hi out mn mx w hp hl hh hm hm2)
  have HF := Lib.hid (fun hz w hp hl hh => firstBad_ok a a1 b1 ca c1 c2 ps lo hi out mn mx hz w hp hl hh)
  have hI := (boxC_new (a := a1) (b := b1) (n := lo.length) (m := hi.length) (ca := c1) (cb := c2) (out := out) (mn := mn) (mx := mx) w)
  have HI := Lib.hid hI
  have x0 := hI.c0
  have x1 := hI.c1
  have x2 := hI.c2
  have x3 := hI.c3
  have x4 := hI.c4
  have HP := Lib.hid hp
  have HL := Lib.hid hl
  have HH := Lib.hid hh
  clear hp hl hh hm hm2 hI
  by_cases hz : vpc ps lo hi out mn mx = 0
  · have HF2 := Lib.hid (HF.out hz)
    rw [kpB_ok hz, hz]
    rw [hz] at HV
    generalize fbL ps lo hi out mn mx = X at HF2
    clear hz HF
    go_enter Try.func26, Try.ntmps26
    go_wp2_with fail
    refine (HV.out _ (HP.out.below HI.out.below (Nat.le_refl _)) (HL.out.below HI.out.below (Nat.le_refl _)) (HH.out.below HI.out.below (Nat.le_refl _))).mono ?_
    rintro e wa ⟨rfl, hB⟩
    have HJ := Lib.hid (HI.out.low hB)
    clear hB x0 x1 x2 x3 x4
    have x0 := HJ.out.c0
    have x1 := HJ.out.c1
    have x2 := HJ.out.c2
    have x3 := HJ.out.c3
    have x4 := HJ.out.c4
    go_wp2_with fail
    refine (HF2.out _ (HP.out.below HJ.out.below (Nat.le_refl _)) (HL.out.below HJ.out.below (Nat.le_refl _)) (HH.out.below HJ.out.below (Nat.le_refl _))).mono ?_
    rintro e wb ⟨ra, rc, rfl, hi1, hB⟩
    have HK := Lib.hid (HJ.out.low hB).below
    clear hB hi1
    go_wp2_with fail
    go_ret2
    exact ⟨by cases X <;> rfl, HK.out⟩
  · rw [kpB_no hz]
    generalize vpc ps lo hi out mn mx = V at HV hz
    have hz1 : (V != 0) = true := by simpa using hz
    have hz2 : (V == 0) = false := by simpa using hz
    clear hz HF
    go_enter Try.func26, Try.ntmps26
    go_wp2_with fail
    refine (HV.out _ (HP.out.below HI.out.below (Nat.le_refl _)) (HL.out.below HI.out.below (Nat.le_refl _)) (HH.out.below HI.out.below (Nat.le_refl _))).mono ?_
    rintro e wa ⟨rfl, hB⟩
    have HJ := Lib.hid (HI.out.low hB)
    clear hB x0 x1 x2 x3 x4
    go_wp2_with fail
    go_ret2
    exact ⟨rfl, HJ.out.below⟩

/-- What First answers. -/
def GivesFst (o : Option (List Int)) (c : Int) (w : World) (e : Ending) (w' : World) : Prop :=
  ∃ a k, e = .returned (.tuple #[.slice a (o.getD []).length k, .bool o.isSome, .int .i64 c]) ∧ IntsAt w' a (o.getD []) ∧ Below w.heap.size w w'
set_option maxRecDepth 100000 in
set_option maxHeartbeats 1000000 in
theorem firstC_any (a a1 b1 : Option Addr) (ca c1 c2 : Nat) (ps : List L) (lo hi : List Int) (out mn mx : Int) (w : World) (hp : LinesAt w a ps) (hl : IntsAt w a1 lo) (hh : IntsAt w b1 hi) (hm : lo.length ≤ 1000) (hm2 : hi.length ≤ 1000) :
    Calls Try.prog 32 #[.slice a ps.length ca, .agg #[.slice a1 lo.length c1, .slice b1 hi.length c2, .int .i64 out, .int .i64 mn, .int .i64 mx]] w (GivesFst (fbL ps lo hi out mn mx) (vpc ps lo hi out mn mx) w) := by
  have HV := Lib.hid (fun w hp hl hh => validateContractP_any a a1 b1 ca c1 c2 ps lo hi out mn mx w hp hl hh hm hm2)
  have HF := Lib.hid (fun hz w hp hl hh => firstBad_ok a a1 b1 ca c1 c2 ps lo hi out mn mx hz w hp hl hh)
  have hI := (boxC_new (a := a1) (b := b1) (n := lo.length) (m := hi.length) (ca := c1) (cb := c2) (out := out) (mn := mn) (mx := mx) w)
  have HI := Lib.hid hI
  have x0 := hI.c0
  have x1 := hI.c1
  have x2 := hI.c2
  have x3 := hI.c3
  have x4 := hI.c4
  have HP := Lib.hid hp
  have HL := Lib.hid hl
  have HH := Lib.hid hh
  clear hp hl hh hm hm2 hI
  by_cases hz : vpc ps lo hi out mn mx = 0
  · have HF2 := Lib.hid (HF.out hz)
    rw [hz]
    rw [hz] at HV
    generalize fbL ps lo hi out mn mx = X at HF2
    clear hz HF
    go_enter Try.func32, Try.ntmps32
    go_wp2_with fail
    refine (HV.out _ (HP.out.below HI.out.below (Nat.le_refl _)) (HL.out.below HI.out.below (Nat.le_refl _)) (HH.out.below HI.out.below (Nat.le_refl _))).mono ?_
    rintro e wa ⟨rfl, hB⟩
    have HJ := Lib.hid (HI.out.low hB)
    clear hB x0 x1 x2 x3 x4
    have x0 := HJ.out.c0
    have x1 := HJ.out.c1
    have x2 := HJ.out.c2
    have x3 := HJ.out.c3
    have x4 := HJ.out.c4
    go_wp2_with fail
    refine (HF2.out _ (HP.out.below HJ.out.below (Nat.le_refl _)) (HL.out.below HJ.out.below (Nat.le_refl _)) (HH.out.below HJ.out.below (Nat.le_refl _))).mono ?_
    rintro e wb ⟨ra, rc, rfl, hi1, hB⟩
    have HK := Lib.hid (HJ.out.low hB).below
    have HX := Lib.hid hi1
    clear hB hi1
    go_wp2_with fail
    go_ret3
    exact ⟨ra, rc, rfl, HX.out, HK.out⟩
  · rw [fbL_no hz]
    generalize vpc ps lo hi out mn mx = V at HV hz
    have hz1 : (V != 0) = true := by simpa using hz
    have hz2 : (V == 0) = false := by simpa using hz
    clear hz HF
    go_enter Try.func32, Try.ntmps32
    go_wp2_with fail
    refine (HV.out _ (HP.out.below HI.out.below (Nat.le_refl _)) (HL.out.below HI.out.below (Nat.le_refl _)) (HH.out.below HI.out.below (Nat.le_refl _))).mono ?_
    rintro e wa ⟨rfl, hB⟩
    have HJ := Lib.hid (HI.out.low hB)
    clear hB x0 x1 x2 x3 x4
    go_wp2_with fail
    go_ret3
    exact ⟨none, 0, rfl, .inl rfl, HJ.out.below⟩

end Go.Proofs.Ytmpgaccpdglhkaa

/- The document's states: contract. -/
set_option linter.unusedVariables false
set_option linter.unusedSimpArgs false
namespace Go.Proofs.Ytmpgaccpdglhkaa
open Go.RowKit Tinker

theorem append_none_stop {P : Program} {w : World} {ops : Array Oper} {rest : List Oper} {o : Oper} {a : Act} {Q : Exit → Act → World → Prop} (hgd : o.guard = none) (s x : Operand) (t : TypeId)
    (ho : o.op = .call { callee := .builtin .append, args := #[s, x], argTypes := #[t, t] })
    (base : Nat) (e : TypeId) (i : TypeInfo) (size : Nat) (ht : P.underlying t = some (.slice e)) (hi : P.info? e = some i)
    (v : Value) (n : Nat) (xs : List Value) (hs : a.eval s = v) (hown : w.ownsRow base e size v n xs) (hx : a.eval x = .slice none 0 0)
    (h : ∀ v', v' = v → wpList P ops Q rest (a.put o.dst v') w) : wpList P ops Q (o :: rest) a w :=
  wpList_append_own_none hgd s x t ho base e i size ht hi v n xs hs hown hx (h v rfl)

set_option maxRecDepth 100000 in
set_option maxHeartbeats 4000000 in
theorem rStates_any (lb lf hb hf c1 c2 : Nat) (lo hi : List Int) (out mn mx : Int) (w : World) (hlb : lb < w.heap.size) (hhb : hb < w.heap.size)
    (hl : ∀ j n, lo[j]? = some n → w.cell? ⟨lb, lf + j, none⟩ = some (.int .i64 n)) (hh : ∀ j n, hi[j]? = some n → w.cell? ⟨hb, hf + j, none⟩ = some (.int .i64 n)) (hc : OkC lo hi) (hN : (allS lo hi).length ≤ 400) :
    Calls Try.prog 100 #[.agg #[.slice (some ⟨lb, lf, none⟩) 4 c1, .slice (some ⟨hb, hf, none⟩) 4 c2, .int .i64 out, .int .i64 mn, .int .i64 mx]] w (GivesRows (allS lo hi) w) := by
  obtain ⟨i0, hii, hz0, hz1, hz2⟩ := info_parts info_int
  obtain ⟨j0, hj, jz0, jz1, jz2⟩ := info_parts info_ints
  have HI0 := Lib.hid (boxC_new (a := some ⟨lb, lf, none⟩) (b := some ⟨hb, hf, none⟩) (n := 4) (m := 4) (ca := c1) (cb := c2) (out := out) (mn := mn) (mx := mx) w)
  have HL := Lib.hid hl
  have HH := Lib.hid hh
  have HC := Lib.hid hc
  have HN := Lib.hid hN
  clear hl hh hc hN
  go_enter Try.func100, Try.ntmps100
  go_wp2_with fail
  go_loopw [3, 4] (fun s3 s4 wr => ∃ (r : Nat) (aa : Option Addr) (cc : Nat), r ≤ 4 ∧ s4 = .int .i64 r ∧ s3 = .slice aa (exTo lo hi r).length cc ∧ RowsZ wr aa r (exTo lo hi r) ∧ BoxC w.heap.size (some ⟨lb, lf, none⟩) (some ⟨hb, hf, none⟩) 4 4 c1 c2 out mn mx w wr) (fun _ s4 _ => 4 - (intOf s4).toNat)
  case atStart => exact ⟨0, _, _, by omega, rfl, rfl, .inl ⟨rfl, rfl, _, rfl, by simp, hp_cell (hp_new (by simp)) (by rfl)⟩, HI0.out.low ((Below.refl _ _).alloc (Nat.le_refl _) _)⟩
  case round =>
    clear HI0
    obtain ⟨r, aa, cc, hr, rfl, rfl, hR, hI⟩ := hrel
    obtain ⟨wo, rfl⟩ : ∃ wo : World, wo = wr := ⟨_, rfl⟩
    by_cases hr4 : r < 4
    · obtain ⟨l, hlr⟩ := get_of_lt (show r < lo.length by rw [HC.out.l4]; exact hr4)
      obtain ⟨uh, hhr⟩ := get_of_lt (show r < hi.length by rw [HC.out.h4]; exact hr4)
      have HLE := HC.out.le r hr4
      rw [getD_of_get hlr, getD_of_get hhr] at HLE
      have b1 := HC.out.lb l (mem_of_get hlr)
      have hd4 : decide ((r : Int) < 4) = true := by simp; omega
      have b2 := HC.out.hb uh (mem_of_get hhr)
      have HS1 := Lib.hid (show exTo lo hi (r + 1) = (exTo lo hi r).flatMap (Tinker.exP l uh) by rw [exTo_succ, getD_of_get hlr, getD_of_get hhr])
      have HMAX := Lib.hid (exTo_le HC.out.le HN.out (show r + 1 ≤ 4 by omega))
      have hn4 := exTo_le HC.out.le HN.out (show r ≤ 4 by omega)
      have HLEN := Lib.hid (fun s (hs : s ∈ exTo lo hi r) => (exTo_in lo hi r s hs).1)
      have hcl := HL.out r l hlr
      have hch := HH.out r uh hhr
      rw [HS1.out] at HMAX
      generalize hfs1 : exTo lo hi (r + 1) = fs1 at HS1
      have HF1 := Lib.hid hfs1
      clear hfs1
      generalize exTo lo hi r = fs at *
      have HI := Lib.hid hI
      have HR := Lib.hid hR
      have x0 := HI.out.c0
      have x1 := HI.out.c1
      have hwo := hI.below.size
      clear hI hR hlr hhr
      go_wp2_with fail
      go_loopw [5, 6] (fun s5 s6 wr => ∃ (i : Nat) (xs : List Value), i ≤ fs.length ∧ s6 = .int .i64 i ∧ RowsI wo s5 ((fs.take i).flatMap (Tinker.exP l uh)) xs wr) (fun _ s6 _ => fs.length - (intOf s6).toNat)
      case atStart => exact ⟨0, [], Nat.zero_le _, rfl, by simpa using RowsI.nil (Below.refl wo.heap.size wo)⟩
      case round =>
        clear x0 x1
        obtain ⟨i, xs, hif, rfl, hJ⟩ := hrel
        obtain ⟨wm, rfl⟩ : ∃ wm : World, wm = wr := ⟨_, rfl⟩
        by_cases hlt : i < fs.length
        · obtain ⟨gb, go, s, a', c', rfl, hgb, hs, cg, hsi, hcase⟩ := HR.out.at_ HLEN.out hlt
          have HSL := Lib.hid (HLEN.out s (mem_of_get hs))
          have HTK := Lib.hid (take_flat (f := Tinker.exP l uh) hs)
          have HPL := Lib.hid (Nat.le_trans (take_flat_le (f := Tinker.exP l uh) (fun x _ => exP_length l uh x) hlt) HMAX.out)
          generalize (fs.take i).flatMap (Tinker.exP l uh) = pre at *
          have HI1 := HI.out.low hJ.below
          have x0 := HI1.c0
          have z0 := (HI1.below.cell (p := ⟨lb, lf + r, none⟩) hlb).trans hcl
          have hwl := HI1.below.size
          have HJ := Lib.hid hJ
          have HSI := Lib.hid hsi
          have HCS := Lib.hid hcase
          clear hJ hs hsi HI1 hcase
          go_wp2_with fail
          go_loopw [5, 7] (fun s5 s7 wr => ∃ (k : Nat) (xs : List Value), k ≤ (uh - l + 1).toNat ∧ s7 = .int .i64 (l + (k : Int)) ∧ RowsI wo s5 (pre ++ (Tinker.exP l uh s).take k) xs wr) (fun _ s7 _ => (uh + 1 - intOf s7).toNat)
          case atStart => exact ⟨0, xs, Nat.zero_le _, by simp, by simpa using HJ.out⟩
          case round =>
            clear HJ x0 z0
            obtain ⟨k, xs, hk, rfl, hJ⟩ := hrel
            have HI1 := HI.out.low hJ.below
            have x1 := HI1.c1
            have z1 := (HI1.below.cell (p := ⟨hb, hf + r, none⟩) hhb).trans hch
            have hwh := HI1.below.size
            by_cases hlt2 : l + (k : Int) ≤ uh
            · have HTS := Lib.hid (exP_take (s := s) (show k < (uh - l + 1).toNat by omega))
              have HPK := Lib.hid (show (pre ++ (Tinker.exP l uh s).take k).length + 1 ≤ 400 by rw [List.length_append, List.length_take, exP_length]; have := HPL.out; omega)
              have HAP := Lib.hid (show ∀ b, wr.heap.size ≤ b → u5.ownBlock ≠ some b from fun b hb e => by have := own_val_lt hJ.out e; omega)
              have hws := hJ.below.size
              have hs4 : s.length ≤ 4 := by rw [HSL.out]; omega
              have cg1 := (hJ.below.cell (p := ⟨gb, _, none⟩) hgb).trans cg
              have hsi1 := HSI.out.below hJ.below (Nat.le_refl _)
              have HJ := Lib.hid hJ
              have hgw : gb < wr.heap.size := by omega
              have hown0 := World.ownsRow_lit (base := wr.heap.size) (e := 3) (size := 1) wr #[] 0 (Nat.le_refl _) (by simp [maxLen]) (by simp)
              clear hJ HI1
              rcases HCS.out with ⟨rfl, rfl, rfl⟩ | ⟨q, rfl⟩
              · clear hsi1
                have hB1 : Below wr.heap.size wr (wr.alloc (.cells #[] 3)) := (Below.refl _ _).alloc (Nat.le_refl _) _
                have HB1 := Lib.hid hB1
                have HO1 := Lib.hid (hown0.alloc (.cells #[.int .i64 (l + (k : Int))] 3))
                have hsz1 := hB1.size
                have HC1 := Lib.hid (cell_one_new (wr.alloc (.cells #[] 3)) (.int .i64 (l + (k : Int))) 3)
                clear hown0 hB1
                go_wp2_with (at_builtin; (refine wpList_append_own_at _ rfl (.tmp 39) (.tmp 41) 34 rfl wr.heap.size 3 i0 (.int .i64 0) 1 8 Try.underlying34 hii hz0 hz1 hz2 rfl (by decide) _ 0 [] rfl HO1.out ⟨wr.heap.size + 1, 0, none⟩ 1 1 [.int .i64 (l + (k : Int))] rfl ?p1 ?p2 ?p3 ?p4 ?p5 ?p6 ?_))
                case p3 => simp [Value.oneCell']
                case p4 => unfold maxLen; omega
                case p6 => first | omega | (simp; omega)
                intro v2 w2 hown2 hgrow2 _ hat2
                have hB2 : Below wr.heap.size wr w2 := (HB1.out.alloc hsz1 _).grown hgrow2 (by simp; omega) (by exact own_base HO1.out)
                have hown2' : w2.ownsRow wr.heap.size 3 1 v2 1 ((([] : List Int) ++ [l + (k : Int)]).map (Value.int .i64)) := by simpa using hown2
                obtain ⟨a2, k2, rfl⟩ := own_slice hown2'
                have HZL := Lib.hid (show (([] : List Int) ++ [l + (k : Int)]).length = 1 by simp)
                have hJ2 := HJ.out.low hB2
                have hal : Below w2.heap.size w2 (w2.alloc (.cells #[.slice a2 1 k2] 34)) := (Below.refl _ _).alloc (Nat.le_refl _) _
                have hOL := (((ownL_of hown2').apart (o := u5.ownBlock) (fun b hb => HAP.out b hb)).wide hws).low hal
                have HR3 := Lib.hid (hJ2.low hal)
                have hs2 := hB2.size
                have HOL := Lib.hid hOL
                clear hown2 hown2' hgrow2 hat2 hJ2 hal hOL hB2
                go_wp2_with (at_builtin; (refine wpList_append_own_at _ rfl (.tmp 33) (.tmp 43) 140 rfl wo.heap.size 34 j0 (.slice none 0 0) 1 24 Try.underlying140 hj jz0 jz1 jz2 rfl (by decide) _ _ xs rfl HR3.out.out ⟨w2.heap.size, 0, none⟩ 1 1 [.slice a2 1 k2] rfl ?q1 ?q2 ?q3 ?q4 ?q5 ?q6 ?_))
                case q1 => rfl
                case q2 => exact cell_one_new _ _ _
                case q3 => simp [Value.oneCell']
                case q4 => unfold maxLen; have := HPK.out; simp only [List.length_append, List.length_take] at this ⊢; omega
                case q5 => have := HPK.out; simp only [List.length_append, List.length_take] at this ⊢; omega
                case q6 => simp; omega
                intro v3 w3 hown3 hgrow3 _ hat3
                have hP := HR3.out.push (c := k2) HOL.out (by rw [HZL.out, List.length_append, List.length_take]; exact hown3) hgrow3 (by simpa using hat3)
                rw [List.append_assoc, ← HTS.out] at hP
                have HP := Lib.hid hP
                clear hown3 hgrow3 hat3 hP
                go_wp2_with fail
                go_roundw
                case rel => exact ⟨k + 1, _, by omega, by go_num, HP.out⟩
                case measure => simp [intOf]; omega
              · have HCL := Lib.hid hsi1.cells
                clear hsi1
                go_wp2_with (at_builtin; (refine wpList_append_own _ rfl (.tmp 34) (.tmp 38) 34 rfl wr.heap.size 3 i0 (.int .i64 0) 1 8 Try.underlying34 hii hz0 hz1 hz2 rfl (by decide) _ 0 [] rfl hown0 q s.length c' (s.map (Value.int .i64)) rfl ?c1 ?c2 ?c3 ?c4 ?c5 ?c6 ?_))
                case c2 => exact fun j z hz => cell_alloc_keep (HCL.out j (.int .i64 z) (by simp [hz]))
                case c3 => simp [Value.oneCell']
                case c4 => simp [maxLen]; omega
                case c5 => omega
                intro v' W1 hown1 hgrow _
                have hB1 : Below wr.heap.size wr W1 := ((Below.refl _ _).alloc (Nat.le_refl _) _).grown hgrow (by simp) (by rintro k hk; simp [Value.ownBlock] at hk; omega)
                clear hown0 hgrow
                -- the state and its new number
                have HB1 := Lib.hid hB1
                have HO1 := Lib.hid (hown1.alloc (.cells #[.int .i64 (l + (k : Int))] 3))
                have hsz1 := hB1.size
                clear hown1 hB1
                go_wp2_with (at_builtin; (refine wpList_append_own_at _ rfl (.tmp 39) (.tmp 41) 34 rfl wr.heap.size 3 i0 (.int .i64 0) 1 8 Try.underlying34 hii hz0 hz1 hz2 rfl (by decide) _ s.length (s.map (Value.int .i64)) rfl HO1.out ⟨W1.heap.size, 0, none⟩ 1 1 [.int .i64 (l + (k : Int))] rfl ?e1 ?e2 ?e3 ?e4 ?e5 ?e6 ?_))
                case e1 => rfl
                case e2 => exact cell_one_new _ _ _
                case e3 => simp [Value.oneCell']
                case e4 => unfold maxLen; omega
                case e5 => omega
                case e6 => simp; omega
                intro v2 w2 hown2 hgrow2 _ hat2
                have hB2 : Below wr.heap.size wr w2 := (HB1.out.alloc hsz1 _).grown hgrow2 (by simp; omega) (by exact own_base HO1.out)
                have hown2' : w2.ownsRow wr.heap.size 3 1 v2 (s.length + 1) ((s ++ [l + (k : Int)]).map (Value.int .i64)) := by simpa using hown2
                obtain ⟨a2, k2, rfl⟩ := own_slice hown2'
                have HZL := Lib.hid (show (s ++ [l + (k : Int)]).length = (s.length + 1) by simp)
                have hJ2 := HJ.out.low hB2
                have hal : Below w2.heap.size w2 (w2.alloc (.cells #[.slice a2 (s.length + 1) k2] 34)) := (Below.refl _ _).alloc (Nat.le_refl _) _
                have hOL := (((ownL_of hown2').apart (o := u5.ownBlock) (fun b hb => HAP.out b hb)).wide hws).low hal
                have HR3 := Lib.hid (hJ2.low hal)
                have hs2 := hB2.size
                have HOL := Lib.hid hOL
                clear hown2 hown2' hgrow2 hat2 hJ2 hal hOL hB2
                go_wp2_with (at_builtin; (refine wpList_append_own_at _ rfl (.tmp 33) (.tmp 43) 140 rfl wo.heap.size 34 j0 (.slice none 0 0) 1 24 Try.underlying140 hj jz0 jz1 jz2 rfl (by decide) _ _ xs rfl HR3.out.out ⟨w2.heap.size, 0, none⟩ 1 1 [.slice a2 (s.length + 1) k2] rfl ?d1 ?d2 ?d3 ?d4 ?d5 ?d6 ?_))
                case d1 => rfl
                case d2 => exact cell_one_new _ _ _
                case d3 => simp [Value.oneCell']
                case d4 => unfold maxLen; have := HPK.out; simp only [List.length_append, List.length_take] at this ⊢; omega
                case d5 => have := HPK.out; simp only [List.length_append, List.length_take] at this ⊢; omega
                case d6 => simp; omega
                intro v3 w3 hown3 hgrow3 _ hat3
                have hP := HR3.out.push (c := k2) HOL.out (by rw [HZL.out, List.length_append, List.length_take]; exact hown3) hgrow3 (by simpa using hat3)
                rw [List.append_assoc, ← HTS.out] at hP
                have HP := Lib.hid hP
                clear hown3 hgrow3 hat3 hP
                go_wp2_with fail
                go_roundw
                case rel => exact ⟨k + 1, _, by omega, by go_num, HP.out⟩
                case measure => simp [intOf]; omega
            · obtain rfl : k = (uh - l + 1).toNat := by omega
              rw [List.take_of_length_le (by rw [exP_length]; exact Nat.le_refl _), ← HTK.out] at hJ
              have HJ := Lib.hid hJ
              clear hJ HI1
              go_wp2_with fail
              go_roundw
              case rel => exact ⟨i + 1, _, by omega, by go_num, HJ.out⟩
              case measure => simp [intOf]; omega
        · obtain rfl : i = fs.length := by omega
          rw [List.take_of_length_le (Nat.le_refl _), ← HS1.out] at hJ
          obtain ⟨a2, k2, rfl⟩ := own_slice hJ.out
          have HJ := Lib.hid hJ
          clear hJ
          go_wp2_with fail
          go_roundw
          case rel => exact ⟨r + 1, a2, k2, by omega, by go_num, by rw [HF1.out], .inr ⟨by omega, by rw [HF1.out]; exact HJ.out.at_.1⟩, HI.out.low HJ.out.below⟩
          case measure => simp [intOf]; omega
    · obtain rfl : r = 4 := by omega
      have HI := Lib.hid hI
      have HR := Lib.hid (hR.rows (by omega))
      clear hI hR
      go_wp2_with fail
      go_ret
      exact ⟨aa, cc, rfl, HR.out, HI.out.below⟩

/-- The document's states of a valid contract. -/
theorem rStates_ok (a1 b1 : Option Addr) (c1 c2 : Nat) (lo hi : List Int) (out mn mx : Int) (hz : vcon lo hi out mn mx = 0) (w : World) (hl : IntsAt w a1 lo) (hh : IntsAt w b1 hi) :
    Calls Try.prog 100 #[.agg #[.slice a1 lo.length c1, .slice b1 hi.length c2, .int .i64 out, .int .i64 mn, .int .i64 mx]] w (GivesRows (allS lo hi) w) := by
  obtain ⟨hcon, hle⟩ := vcon_ok hz
  have hc := okC_of hcon
  have h4 := hc.l4
  have k4 := hc.h4
  obtain ⟨lb, lf, rfl, hlb, hl2⟩ := hl.resolve_left (by rintro rfl; simp at h4)
  obtain ⟨hb, hf, rfl, hhb, hh2⟩ := hh.resolve_left (by rintro rfl; simp at k4)
  rw [h4, k4]
  have hN : (allS lo hi).length ≤ 400 := by
    have := exTo_len (lo := lo) (hi := hi) 4 (fun j hj => hc.le j hj)
    unfold allS; omega
  exact rStates_any lb lf hb hf c1 c2 lo hi out mn mx w hlb hhb hl2 hh2 hc hN

end Go.Proofs.Ytmpgaccpdglhkaa
