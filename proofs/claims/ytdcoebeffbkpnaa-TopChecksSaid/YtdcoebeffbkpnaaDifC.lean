/- Differ of package check: contract. -/
import Derived.Test.YtdcoebeffbkpnaaRdf
import Derived.Test.YtdcoebeffbkpnaaBadC
import Derived.Test.YtdcoebeffbkpnaaTells
set_option linter.unusedVariables false
set_option linter.unusedSimpArgs false
namespace Go.Proofs.Ytdcoebeffbkpnaa
open Go.RowKit Go.Shelf Tinker

/-- The memory of Differ: the two programs, the contract. -/
structure DifI (B : Nat) (vp vq : Value) (vc : Array Value) (w W : World) : Prop where
  bp : W.heap[B]? = some (.cells #[vp] 32 (0, 0))
  bq : W.heap[B + 1]? = some (.cells #[vq] 32 (0, 0))
  bc : W.heap[B + 1 + 1]? = some (.cells vc 36 (0, 0))
  below : Below w.heap.size w W
theorem DifI.low {B : Nat} {vp vq : Value} {vc : Array Value} {w W W' : World} (h : DifI B vp vq vc w W) (hb : Below W.heap.size W W') : DifI B vp vq vc w W' :=
  ⟨hp_below h.bp hb (hp_lt h.bp), hp_below h.bq hb (hp_lt h.bq), hp_below h.bc hb (hp_lt h.bc), h.below.trans (hb.mono h.below.size)⟩
theorem DifI.drew {B : Nat} {vp vq : Value} {vc : Array Value} {w W : World} (h : DifI B vp vq vc w W) : DifI B vp vq vc w W.drew := ⟨hp_drew h.bp, hp_drew h.bq, hp_drew h.bc, h.below.drew⟩

theorem dfc_L (ps qs : List L) (lo hi : List Int) (out mn mx : Int) : dfc ps qs lo hi out mn mx = feL [vp ps, vp qs, vcon lo hi out mn mx] := by
  simp only [dfc, vpc, fe, feL]
  repeat' split
  all_goals first | rfl | omega | simp_all
set_option maxRecDepth 100000 in
set_option maxHeartbeats 4000000 in
theorem differ_any (a a2 a1 b1 : Option Addr) (ca ca2 c1 c2 : Nat) (ps qs : List L) (lo hi : List Int) (out mn mx : Int) (w : World) (hp : LinesAt w a ps) (hq : LinesAt w a2 qs) (hl : IntsAt w a1 lo) (hh : IntsAt w b1 hi) (hm : lo.length ≤ 1000) (hm2 : hi.length ≤ 1000) :
    Calls Try.prog 21 #[.slice a ps.length ca, .slice a2 qs.length ca2, .agg #[.slice a1 lo.length c1, .slice b1 hi.length c2, .int .i64 out, .int .i64 mn, .int .i64 mx]] w (GivesFst (dfL ps qs lo hi out mn mx) (dfc ps qs lo hi out mn mx) w) := by
  have C1 := Lib.hid (fun w hp => validate_any a ca ps w hp)
  have C2 := Lib.hid (fun w hp => validate_any a2 ca2 qs w hp)
  have C3 := Lib.hid (fun w hl hh => validateContract_C a1 b1 c1 c2 lo hi out mn mx w hl hh hm hm2)
  have hI : DifI w.heap.size (.slice a ps.length ca) (.slice a2 qs.length ca2) #[.slice a1 lo.length c1, .slice b1 hi.length c2, .int .i64 out, .int .i64 mn, .int .i64 mx] w (((w.alloc (.cells #[.slice a ps.length ca] 32)).alloc (.cells #[.slice a2 qs.length ca2] 32)).alloc (.cells #[.slice a1 lo.length c1, .slice b1 hi.length c2, .int .i64 out, .int .i64 mn, .int .i64 mx] 36)) :=
    ⟨hp_alloc (hp_alloc (hp_new rfl)), hp_alloc (hp_new (by simp)), hp_new (by simp), (((Below.refl _ _).alloc (Nat.le_refl _) _).alloc (by simp) _).alloc (by simp; omega) _⟩
  have p0 := hp_cell hI.bp (j := 0) (by rfl)
  have q0 := hp_cell hI.bq (j := 0) (by rfl)
  have x0 := hp_cell hI.bc (j := 0) (by rfl)
  have x1 := hp_cell hI.bc (j := 1) (by rfl)
  have x2 := hp_cell hI.bc (j := 2) (by rfl)
  have x3 := hp_cell hI.bc (j := 3) (by rfl)
  have x4 := hp_cell hI.bc (j := 4) (by rfl)
  have HP := Lib.hid hp
  have HQ := Lib.hid hq
  have HL := Lib.hid hl
  have HH := Lib.hid hh
  have HZ := Lib.hid (fun h => dfc_ok (ps := ps) (qs := qs) (lo := lo) (hi := hi) (out := out) (mn := mn) (mx := mx) h)
  have HDL := Lib.hid (fun h => dfL_ok (ps := ps) (qs := qs) (lo := lo) (hi := hi) (out := out) (mn := mn) (mx := mx) h)
  have HDN := Lib.hid (fun h => dfL_no (ps := ps) (qs := qs) (lo := lo) (hi := hi) (out := out) (mn := mn) (mx := mx) h)
  have HE := Lib.hid (dfc_L ps qs lo hi out mn mx)
  generalize hv1 : vp ps = v1 at C1 HE
  generalize hv2 : vp qs = v2 at C2 HE
  generalize hv3 : vcon lo hi out mn mx = v3 at C3 HE
  have HV1 := Lib.hid hv1
  have HV2 := Lib.hid hv2
  have HV3 := Lib.hid hv3
  clear hp hq hl hh hm hm2 hv1 hv2 hv3
  go_enter Try.func21, Try.ntmps21
  go_upto_region 1 with fail
  go_cut [9] (fun s9 wx => s9 = .int .i64 (feL [v1, v2, v3]) ∧ DifI w.heap.size (.slice a ps.length ca) (.slice a2 qs.length ca2) #[.slice a1 lo.length c1, .slice b1 hi.length c2, .int .i64 out, .int .i64 mn, .int .i64 mx] w wx)
  case first =>
    replace hI := hI.drew
    go_region_with (first | (go_at_call_of 44 (Value.slice a ps.length ca); refine (C1.out _ ?_).mono ?_; exact HP.out.below hI.below (Nat.le_refl _); rintro e wa ⟨rfl, hBa⟩; replace hI := hI.low hBa; clear hBa p0 q0 x0 x1 x2 x3 x4; have p0 := hp_cell hI.bp (j := 0) (by rfl); have q0 := hp_cell hI.bq (j := 0) (by rfl); have x0 := hp_cell hI.bc (j := 0) (by rfl); have x1 := hp_cell hI.bc (j := 1) (by rfl); have x2 := hp_cell hI.bc (j := 2) (by rfl); have x3 := hp_cell hI.bc (j := 3) (by rfl); have x4 := hp_cell hI.bc (j := 4) (by rfl)) | (go_at_call_of 44 (Value.slice a2 qs.length ca2); refine (C2.out _ ?_).mono ?_; exact HQ.out.below hI.below (Nat.le_refl _); rintro e wa ⟨rfl, hBa⟩; replace hI := hI.low hBa; clear hBa p0 q0 x0 x1 x2 x3 x4; have p0 := hp_cell hI.bp (j := 0) (by rfl); have q0 := hp_cell hI.bq (j := 0) (by rfl); have x0 := hp_cell hI.bc (j := 0) (by rfl); have x1 := hp_cell hI.bc (j := 1) (by rfl); have x2 := hp_cell hI.bc (j := 2) (by rfl); have x3 := hp_cell hI.bc (j := 3) (by rfl); have x4 := hp_cell hI.bc (j := 4) (by rfl)) | (go_at_call 41; refine (C3.out _ ?_ ?_).mono ?_; exact HL.out.below hI.below (Nat.le_refl _); exact HH.out.below hI.below (Nat.le_refl _); rintro e wa ⟨rfl, hBa⟩; replace hI := hI.low hBa; clear hBa p0 q0 x0 x1 x2 x3 x4; have p0 := hp_cell hI.bp (j := 0) (by rfl); have q0 := hp_cell hI.bq (j := 0) (by rfl); have x0 := hp_cell hI.bc (j := 0) (by rfl); have x1 := hp_cell hI.bc (j := 1) (by rfl); have x2 := hp_cell hI.bc (j := 2) (by rfl); have x3 := hp_cell hI.bc (j := 3) (by rfl); have x4 := hp_cell hI.bc (j := 4) (by rfl)) | (go_at_call 43; refine (firstError3_at _ _ _ _ _ (ints_three _ _ _ _ _)).mono ?_; rintro e wb ⟨rfl, rfl⟩))
    all_goals go_wp2_with fail
    all_goals go_meet
    all_goals refine ⟨rfl, ?_⟩
    all_goals exact hI.low ((Below.refl _ _).alloc (Nat.le_refl _) _)
  case rest =>
    clear hI p0 q0 x0 x1 x2 x3 x4
    obtain ⟨rfl, hI⟩ := hcut
    rw [← HE.out]
    by_cases hz : dfc ps qs lo hi out mn mx = 0
    · obtain ⟨hz1, hz2⟩ := HZ.out hz
      obtain ⟨hv, hcon⟩ := vpc_ok hz2
      obtain ⟨hcon, _⟩ := vcon_ok hcon
      have hc := okC_of hcon
      obtain ⟨_, _, _, ho, _⟩ := isCon_ok hcon
      have h4 := hc.l4
      have k4 := hc.h4
      have HI := Lib.hid hI
      obtain ⟨lb, lf, ea, hlb, hl2⟩ := HL.out.resolve_left (by rintro rfl; simp at h4)
      obtain ⟨hb, hf, eb, hhb, hh2⟩ := HH.out.resolve_left (by rintro rfl; simp at k4)
      subst ea
      subst eb
      have HT := Lib.hid (HDL.out hz)
      have HZ0 := Lib.hid hz
      have e1 : ((0 : Int) != 0) = false := by simp
      have HF := Lib.hid (find_differ (fun s => eqP ps qs out s) w.heap.size (w.heap.size + 1 + 1) (w.heap.size + 1) lb lf hb hf c1 c2 lo hi out mn mx wc hc (Nat.lt_of_lt_of_le hlb hI.below.size) (Nat.lt_of_lt_of_le hhb hI.below.size)
        (fun j n hj => (hI.below.cell (p := ⟨lb, _, none⟩) hlb).trans (hl2 j n hj)) (fun j n hj => (hI.below.cell (p := ⟨hb, _, none⟩) hhb).trans (hh2 j n hj))
        (fun W s b hB hs hx => clos_differ wc w.heap.size (w.heap.size + 1 + 1) (w.heap.size + 1) a a2 (some ⟨lb, lf, none⟩) (some ⟨hb, hf, none⟩) ca ca2 lo.length hi.length c1 c2 ps qs out mn mx hI.bp hI.bq hI.bc W s b hB ((HP.out.below hI.below (Nat.le_refl _)).below hB (Nat.le_refl _)) ((HQ.out.below hI.below (Nat.le_refl _)).below hB (Nat.le_refl _)) hs (by unfold vr fe; rw [if_pos hz1]; exact inBx_vs hc hx) (by unfold vr fe; rw [if_pos hv]; exact inBx_vs hc hx) hx.1 ho))
      have x0 : wc.cell? ⟨w.heap.size + 1 + 1, 0, none⟩ = some (.slice (some ⟨lb, lf, none⟩) 4 c1) := by rw [← h4]; exact hp_cell hI.bc (by rfl)
      have x1 : wc.cell? ⟨w.heap.size + 1 + 1, 1, none⟩ = some (.slice (some ⟨hb, hf, none⟩) 4 c2) := by rw [← k4]; exact hp_cell hI.bc (by rfl)
      have x2 := hp_cell hI.bc (j := 2) (by rfl)
      have x3 := hp_cell hI.bc (j := 3) (by rfl)
      have x4 := hp_cell hI.bc (j := 4) (by rfl)
      generalize (allS lo hi).find? (fun s => !eqP ps qs out s) = X at HF HT
      rw [hz]
      clear hI hz hz1 hz2 hv hcon hc ho hl2 hh2 HZ HDL HDN HE C1 C2 C3 HV1 HV2 HV3
      go_wp2_with fail
      refine HF.out.mono ?_
      rintro e wb ⟨ra, rc, rfl, hi1, hB⟩
      have HK := Lib.hid (HI.out.low hB).below
      have HX := Lib.hid hi1
      clear hB hi1
      go_wp2_with fail
      go_ret3
      rw [HT.out, HZ0.out]
      exact ⟨ra, rc, rfl, HX.out, HK.out⟩
    · have HT := Lib.hid (HDN.out hz)
      have hz1 : (dfc ps qs lo hi out mn mx != 0) = true := by simpa using hz
      have hz2 : (dfc ps qs lo hi out mn mx == 0) = false := by simpa using hz
      have HI := Lib.hid hI
      clear hz hI HZ HDL HDN HE C1 C2 C3 HV1 HV2 HV3
      go_wp2_with fail
      go_ret3
      rw [HT.out]
      exact ⟨none, 0, rfl, .inl rfl, HI.out.below⟩

end Go.Proofs.Ytdcoebeffbkpnaa
