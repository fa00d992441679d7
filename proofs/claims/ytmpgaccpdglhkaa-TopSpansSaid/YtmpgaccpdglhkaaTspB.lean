/- TopSpans, a case: the walk. -/
import Derived.Test.YtmpgaccpdglhkaaTspA
import Derived.Test.YtmpgaccpdglhkaaRuns
import Derived.IntWalk
set_option linter.unusedVariables false
set_option linter.unusedSimpArgs false
namespace Go.Proofs.Ytmpgaccpdglhkaa
open Go.RowKit Tinker

set_option maxRecDepth 100000 in
set_option maxHeartbeats 40000000 in
theorem topSpans_B (g : Option Addr) (cg : Nat) (ps : List L) (a : Option Addr) (ca : Nat) (lo : List Int) (b : Option Addr) (cb : Nat) (hi : List Int) (out mn mx r : Int) (w : World) (hp : LinesAt w g ps) (hl : IntsAt w a lo) (hh : IntsAt w b hi) (h1 : ¬ 100 < ps.length) (hbig : ¬ (100 < lo.length ∨ 100 < hi.length)) (hz : vpc ps lo hi out mn mx = 0) (hPV : pvB ps (conB lo hi) out mn mx = false) (hKP : kpB ps lo hi out mn mx = false) :
    Calls Try.prog 7 #[.slice g ps.length cg, .agg #[.slice a lo.length ca, .slice b hi.length cb, .int .i64 out, .int .i64 mn, .int .i64 mx], .int .i64 r] w fun e w' => e = .returned (.bool true) ∧ Below w.heap.size w w' := by
  have HLG := Lib.hid (fun w => long_any g ps.length cg w)
  have HW := Lib.hid (fun w => wide_any a b ca cb lo.length hi.length out mn mx w)
  have HI := Lib.hid (boxC_new (a := a) (b := b) (n := lo.length) (m := hi.length) (ca := ca) (cb := cb) (out := out) (mn := mn) (mx := mx) w)
  have x0 := HI.out.c0
  have x1 := HI.out.c1
  have x2 := HI.out.c2
  have x3 := HI.out.c3
  have x4 := HI.out.c4
  have hps : ps.length ≤ 1000 := by omega
  rw [show decide ((100 : Int) < (ps.length : Int)) = false from decide_eq_false (by omega)] at HLG
  have m1 : lo.length ≤ 1000 := by omega
  have m2 : hi.length ≤ 1000 := by omega
  rw [show decide (100 < lo.length ∨ 100 < hi.length) = false by simpa using hbig] at HW
  have HP := Lib.hid hp
  have HS := Lib.hid hl
  have HT := Lib.hid hh
  have C1 := Lib.hid (fun w h1 h2 h3 => sProves_any g a b cg ca cb ps lo hi out mn mx w h1 h2 h3 m1 m2)
  have C2 := Lib.hid (fun w h1 h2 h3 => keeps_any g a b cg ca cb ps lo hi out mn mx w h1 h2 h3 m1 m2)
  have C3 := Lib.hid (fun w h1 h2 h3 => extremes_any g a b cg ca cb ps lo hi out mn mx w h1 h2 h3 m1 m2)
  have C5 := Lib.hid (fun w h1 h2 h3 => sVerdict_any g a b cg ca cb ps lo hi out mn mx w h1 h2 h3 m1 m2)
  have C6 := Lib.hid (fun w h1 h2 h3 => sLoss_any g a b cg ca cb ps lo hi out mn mx w h1 h2 h3 m1 m2)
  have C8 := Lib.hid (fun w h1 h2 h3 => firstC_any g a b cg ca cb ps lo hi out mn mx w h1 h2 h3 m1 m2)
  have C9 := Lib.hid (fun w h1 h2 h3 => sProvesEach_any g a b cg ca cb ps lo hi out mn mx r w h1 h2 h3 m1 m2)
  unfold GivesFst at C8
  clear hbig hl hh hp h1
  obtain ⟨z1, z2⟩ := vpc_ok hz
  obtain ⟨q1, q2, q3, q4, _⟩ := isCon_ok (vcon_ok z2).1
  obtain ⟨o0, o3⟩ := isReg_iff.1 q4
  have hcc := okC_of (vcon_ok z2).1
  have hok := okB_conV z2
  have hv := (vp_ok z1).2
  have hoy := end_ok hv hok
  have hg := hoy.g o0 o3
  obtain ⟨⟨_, _⟩, ⟨_, _⟩, _⟩ := okG_iff.1 hg
  obtain ⟨e1, e2, e3⟩ := ex_in hz
  have C4 := Lib.hid (fun w h1 h2 => tOf a b ca cb lo hi out mn mx w h1 h2 m1 m2 z2)
  have C7 := Lib.hid (fun a2 c2 w h1 h2 => tAfter g a2 cg c2 ps (conB lo hi) w h1 h2 z1 hok)
  have hvd : vdA ps lo hi out mn mx = if pvB ps (conB lo hi) out mn mx then 1 else if kpB ps lo hi out mn mx then 0 else -1 := by unfold vdA; rw [if_pos hz]
  have hls : lsA ps lo hi out mn mx = ((gAt (endB ps (conB lo hi)) out).hi - (gAt (endB ps (conB lo hi)) out).lo) - ((exV ps lo hi out mn mx).2 - (exV ps lo hi out mn mx).1) := by unfold lsA; rw [if_pos hz]
  have hpv : pvA ps lo hi out mn mx = pvB ps (conB lo hi) out mn mx := by unfold pvA; rw [if_pos hz]
  have k1 : pvB ps (conB lo hi) out mn mx = true → kpB ps lo hi out mn mx = true := pv_kp hz
  have k2 : isReg r = true → pvB ps (conB lo hi) out mn mx = true → peA ps lo hi out mn mx r = true := fun hr h => by
    unfold peA peC; rw [hz, hr, if_pos (show fe 0 (if (true : Bool) = true then 0 else 1) = 0 from rfl)]; exact pv_pe hz hr h
  have k3 : isReg r = true → peA ps lo hi out mn mx r = true → kpB ps lo hi out mn mx = true := fun hr h => by
    unfold peA peC at h; rw [hz, hr, if_pos (show fe 0 (if (true : Bool) = true then 0 else 1) = 0 from rfl)] at h; exact pe_kp hz hr h
  have kf : kpB ps lo hi out mn mx = !(fbL ps lo hi out mn mx).isSome := kpB_ok hz
  have hfs : ∀ s, fbL ps lo hi out mn mx = some s → okS s ∧ memB (conB lo hi) s = true := fun s hs => by
    obtain ⟨h1, h2⟩ := all_con hcc (fbL_in hs).1
    exact ⟨h2, mem_con hcc.l4 hcc.h4 h1⟩
  have hhf : isReg r = true → (gAt (conB lo hi) r).lo ≠ (gAt (conB lo hi) r).hi → _ := fun hr hne => half_in (out := out) (mn := mn) (mx := mx) hz hr hne
  rw [hpv, hz] at C1
  rw [hz] at C2 C3
  rw [hvd, hz] at C5
  rw [hls, hz] at C6
  rw [hz] at C8
  rw [show peC ps lo hi out mn mx r = if isReg r then 0 else 1 by unfold peC; rw [hz]; rfl] at C9
  clear hvd hls hpv
  generalize pvB ps (conB lo hi) out mn mx = PV at *
  generalize kpB ps lo hi out mn mx = KP at *
  generalize peA ps lo hi out mn mx r = PE at *
  generalize fbL ps lo hi out mn mx = FB at *
  generalize (exV ps lo hi out mn mx).1 = l at *
  generalize (exV ps lo hi out mn mx).2 = m at *
  clear hz z2 q1 q2 q3 q4 hcc
  generalize conB lo hi = B at *
  have HYL := Lib.hid hoy.l4
  obtain ⟨yo, hyo⟩ := get_of_lt (show out.toNat < (endB ps B).length by rw [HYL.out]; omega)
  have HYO := Lib.hid hyo
  have eg : gAt (endB ps B) out = yo := getD_of_get hyo
  clear hyo
  rw [eg] at hg e1 e2 C6
  have hgo : gAt (endB ps B) out = yo := eg
  obtain ⟨⟨w1, w2⟩, ⟨w3, w4⟩, w5⟩ := okG_iff.1 hg
  have t1 : out < 4 := by omega
  have u1 : out.toNat < 4 := by omega
  have c1 : decide (out < 0) = false := decide_eq_false (by omega)
  have c2 : decide ((4 : Int) ≤ out) = false := decide_eq_false (by omega)
  have c3 : decide (l < yo.lo) = false := decide_eq_false (by omega)
  have c4 : decide (yo.hi < m) = false := decide_eq_false (by omega)
  have hw1 : IntKind.i64.wrap (m - l) = m - l := IntWalk.i64_in _ (by omega)
  have hw3 : IntKind.i64.wrap (yo.hi - yo.lo) = yo.hi - yo.lo := IntWalk.i64_in _ (by omega)
  have hw2 : IntKind.i64.wrap (yo.hi - yo.lo - (m - l)) = yo.hi - yo.lo - (m - l) := IntWalk.i64_in _ (by omega)
  have c5 : (yo.hi - yo.lo - (m - l) != yo.hi - yo.lo - (m - l)) = false := by simp
  have c6 : decide (yo.hi - yo.lo - (m - l) < 0) = false := decide_eq_false (by omega)
  have c7 : decide (out < 4) = true := decide_eq_true t1
  clear eg hgo
  subst hPV
  subst hKP
  obtain ⟨s, rfl⟩ : ∃ s, FB = some s := by cases FB <;> simp at kf ⊢
  obtain ⟨hso, hsm⟩ := hfs s rfl
  have hR := runE_ok (p := ps) (s := s) (show vr ps s = 0 by unfold vr; rw [z1, vs_ok' hso.1 hso.2]; rfl)
  have hend := end_pt hv hso
  have hend : endB ps (ptB s) = ptB (runE ps s) := hend
  have okp := okB_pt hso
  have okr := okB_pt hR
  have D1 := Lib.hid (fun a c w h => tPoint a c s w h hso)
  have D2 := Lib.hid (fun b2 cb2 w h1 h2 => tRun g b2 cg cb2 ps s w h1 h2 z1 hso)
  have D3 := Lib.hid (fun a2 c2 w h1 h2 => tAfter g a2 cg c2 ps (ptB s) w h1 h2 z1 okp)
  rw [hend] at D3
  have D4 := Lib.hid (fun a a2 ca c2 w h1 h2 => tHas a a2 ca c2 (ptB (runE ps s)) (runE ps s) w h1 h2 okr hR (mem_pt hR.1))
  have D5 := Lib.hid (fun a1 a2 c1 c2 w h1 h2 => tWithin a1 a2 c1 c2 (ptB (runE ps s)) (endB ps B) w h1 h2 okr hoy (by rw [← hend]; exact end_mono hv okp hok (sub_pt hso.1 hsm)))
  have D6 := Lib.hid (fun a c w h => tSize a c (ptB (runE ps s)) w h okr (sz_pt hR.1))
  have hs4 : ((some s : Option (List Int)).getD []).length = 4 := hso.1
  have hs5 : (some s : Option (List Int)).getD [] = s := rfl
  rw [hs4, hs5] at C8
  generalize ptB (runE ps s) = PR at *
  generalize runE ps s = RE at *
  generalize ptB s = PS at *
  clear kf hfs hso hsm hR hend okp okr hs4 hs5
  have hC5 : (if (false : Bool) = true then (1 : Int) else if (false : Bool) = true then 0 else -1) = -1 := rfl
  rw [hC5] at C5
  clear hC5
  cases hr : isReg r
  · rw [hr] at C9
    replace C9 : Hid (∀ w, LinesAt w g ps → IntsAt w a lo → IntsAt w b hi → Calls _ _ _ w fun e w' => e = .returned (.tuple #[.bool PE, .int .i64 1]) ∧ Below w.heap.size w w') := C9
    generalize endB ps B = Y at *
    clear hr z1 hok hv hoy hg k1 k2 k3 hhf e1 e2 e3
    go_enter Try.func7, Try.ntmps7
    go_upto_region 1 with fail
    generalize World.alloc _ _ = W0 at *
    clear x0 x1 x2 x3 x4
    go_wp2_with fail
    refine (kReached _ _ _ (lines_blk (hp_alloc (hp_new rfl))) (ranges_blk (hp_new (by simp)))).mono ?_
    rintro e wk1 ⟨ak, ck, rfl, rk, hB⟩
    have HI := Lib.hid (HI.out.low ((((Below.refl _ _).alloc (Nat.le_refl _) _).alloc (by simp) _).trans (hB.mono (by simp; omega))))
    have RK := Lib.hid rk
    clear hB rk
    go_wp2_with fail
    refine (same_self 2 _ _ _ _ [0, 1] _ rfl (RK.out.below ((Below.refl _ _).alloc (Nat.le_refl _) _) (Nat.le_refl _)) (ints_lit2 _) (by omega)).mono ?_
    rintro e wk2 ⟨rfl, hB⟩
    have HI := Lib.hid (HI.out.low (((Below.refl _ _).alloc (Nat.le_refl _) _).trans (hB.mono (by simp))))
    clear hB RK
    have x0 := HI.out.c0
    have x1 := HI.out.c1
    have x2 := HI.out.c2
    have x3 := HI.out.c3
    have x4 := HI.out.c4
    go_wp2_with fail
    refine (HLG.out _).mono ?_
    rintro e w0 ⟨rfl, rfl⟩
    go_wp2_with fail
    refine (HW.out _ ).mono ?_
    rintro e w1 ⟨rfl, hB⟩
    have HI := Lib.hid (HI.out.low hB)
    clear hB x0 x1 x2 x3 x4
    have x0 := HI.out.c0
    have x1 := HI.out.c1
    have x2 := HI.out.c2
    have x3 := HI.out.c3
    have x4 := HI.out.c4
    go_wp2_with fail
    refine (C1.out _ (HP.out.below HI.out.below (Nat.le_refl _)) (HS.out.below HI.out.below (Nat.le_refl _)) (HT.out.below HI.out.below (Nat.le_refl _))).mono ?_
    rintro e w2 ⟨rfl, hB⟩
    have HI := Lib.hid (HI.out.low hB)
    clear hB x0 x1 x2 x3 x4
    have x0 := HI.out.c0
    have x1 := HI.out.c1
    have x2 := HI.out.c2
    have x3 := HI.out.c3
    have x4 := HI.out.c4
    go_wp2_with fail
    refine (C2.out _ (HP.out.below HI.out.below (Nat.le_refl _)) (HS.out.below HI.out.below (Nat.le_refl _)) (HT.out.below HI.out.below (Nat.le_refl _))).mono ?_
    rintro e w3 ⟨rfl, hB⟩
    have HI := Lib.hid (HI.out.low hB)
    clear hB x0 x1 x2 x3 x4
    have x0 := HI.out.c0
    have x1 := HI.out.c1
    have x2 := HI.out.c2
    have x3 := HI.out.c3
    have x4 := HI.out.c4
    go_wp2_with fail
    refine (C3.out _ (HP.out.below HI.out.below (Nat.le_refl _)) (HS.out.below HI.out.below (Nat.le_refl _)) (HT.out.below HI.out.below (Nat.le_refl _))).mono ?_
    rintro e w4 ⟨rfl, hB⟩
    have HI := Lib.hid (HI.out.low hB)
    clear hB x0 x1 x2 x3 x4
    have x0 := HI.out.c0
    have x1 := HI.out.c1
    have x2 := HI.out.c2
    have x3 := HI.out.c3
    have x4 := HI.out.c4
    go_wp2_with fail
    refine (C4.out _ (HS.out.below HI.out.below (Nat.le_refl _)) (HT.out.below HI.out.below (Nat.le_refl _))).mono ?_
    rintro e w5 ⟨ab5, cb5, rfl, ho, hB⟩
    have HI := Lib.hid (HI.out.low hB)
    have RB := Lib.hid (ho)
    clear hB x0 x1 x2 x3 x4 ho
    have x0 := HI.out.c0
    have x1 := HI.out.c1
    have x2 := HI.out.c2
    have x3 := HI.out.c3
    have x4 := HI.out.c4
    go_wp2_with fail
    refine (C5.out _ (HP.out.below HI.out.below (Nat.le_refl _)) (HS.out.below HI.out.below (Nat.le_refl _)) (HT.out.below HI.out.below (Nat.le_refl _))).mono ?_
    rintro e w6 ⟨rfl, hB⟩
    have RB := Lib.hid (RB.out.below hB (Nat.le_refl _))
    have HI := Lib.hid (HI.out.low hB)
    clear hB x0 x1 x2 x3 x4
    have x0 := HI.out.c0
    have x1 := HI.out.c1
    have x2 := HI.out.c2
    have x3 := HI.out.c3
    have x4 := HI.out.c4
    go_wp2_with fail
    refine (C6.out _ (HP.out.below HI.out.below (Nat.le_refl _)) (HS.out.below HI.out.below (Nat.le_refl _)) (HT.out.below HI.out.below (Nat.le_refl _))).mono ?_
    rintro e w7 ⟨rfl, hB⟩
    have RB := Lib.hid (RB.out.below hB (Nat.le_refl _))
    have HI := Lib.hid (HI.out.low hB)
    clear hB x0 x1 x2 x3 x4
    have x0 := HI.out.c0
    have x1 := HI.out.c1
    have x2 := HI.out.c2
    have x3 := HI.out.c3
    have x4 := HI.out.c4
    go_wp2_with fail
    refine (C7.out _ _ _ (HP.out.below HI.out.below (Nat.le_refl _)) RB.out).mono ?_
    rintro e w8 ⟨ab8, cb8, rfl, ho, hB⟩
    have RB := Lib.hid (RB.out.below hB (Nat.le_refl _))
    have HI := Lib.hid (HI.out.low hB)
    have RY := Lib.hid (ho)
    clear hB x0 x1 x2 x3 x4 ho
    have x0 := HI.out.c0
    have x1 := HI.out.c1
    have x2 := HI.out.c2
    have x3 := HI.out.c3
    have x4 := HI.out.c4
    obtain ⟨gy, fy, yy, ey, hgy, hyy, y0, y1⟩ := RY.out.at_ (k := out.toNat) (by rw [HYL.out]; exact u1)
    subst ey
    rw [HYO.out] at hyy
    injection hyy with hyy
    subst hyy
    go_wp2_with fail
    go_quiet (fail)
    have HIQ : ∀ q, BoxC _ _ _ _ _ _ _ _ _ _ _ (World.drewN _ q) := fun q => HI.out.drewN q
    have HRQ : ∀ q, Below w8.heap.size w8 (w8.drewN q) := fun q => below_dn (Below.refl _ _)
    generalize hWq : World.drewN w8 _ = WQ at *
    have hBq := hWq ▸ HRQ _
    clear HIQ HRQ hWq
    have HI := Lib.hid (HI.out.low hBq)
    have RB := Lib.hid (RB.out.below hBq (Nat.le_refl _))
    have RY := Lib.hid (RY.out.below hBq (Nat.le_refl _))
    clear hBq x0 x1 x2 x3 x4 y0 y1
    have x0 := HI.out.c0
    have x1 := HI.out.c1
    have x2 := HI.out.c2
    have x3 := HI.out.c3
    have x4 := HI.out.c4
    go_wp2_with fail
    refine (C8.out _ (HP.out.below HI.out.below (Nat.le_refl _)) (HS.out.below HI.out.below (Nat.le_refl _)) (HT.out.below HI.out.below (Nat.le_refl _))).mono ?_
    rintro e w9 ⟨a8, k8, rfl, i8, hB⟩
    have RB := Lib.hid (RB.out.below hB (Nat.le_refl _))
    have RY := Lib.hid (RY.out.below hB (Nat.le_refl _))
    have HI := Lib.hid (HI.out.low hB)
    have RS := Lib.hid (i8)
    clear hB x0 x1 x2 x3 x4 i8
    have x0 := HI.out.c0
    have x1 := HI.out.c1
    have x2 := HI.out.c2
    have x3 := HI.out.c3
    have x4 := HI.out.c4
    go_wp2_with fail
    refine (D1.out _ _ _ RS.out).mono ?_
    rintro e w10 ⟨ab10, cb10, rfl, ho, hB⟩
    have RB := Lib.hid (RB.out.below hB (Nat.le_refl _))
    have RY := Lib.hid (RY.out.below hB (Nat.le_refl _))
    have RS := Lib.hid (RS.out.below hB (Nat.le_refl _))
    have HI := Lib.hid (HI.out.low hB)
    have RP := Lib.hid (ho)
    clear hB x0 x1 x2 x3 x4 ho
    have x0 := HI.out.c0
    have x1 := HI.out.c1
    have x2 := HI.out.c2
    have x3 := HI.out.c3
    have x4 := HI.out.c4
    go_wp2_with fail
    refine (D2.out _ _ _ (HP.out.below HI.out.below (Nat.le_refl _)) RS.out).mono ?_
    rintro e w11 ⟨a9, k9, rfl, i9, hB⟩
    have RB := Lib.hid (RB.out.below hB (Nat.le_refl _))
    have RY := Lib.hid (RY.out.below hB (Nat.le_refl _))
    have RS := Lib.hid (RS.out.below hB (Nat.le_refl _))
    have RP := Lib.hid (RP.out.below hB (Nat.le_refl _))
    have HI := Lib.hid (HI.out.low hB)
    have RE := Lib.hid (i9)
    clear hB x0 x1 x2 x3 x4 i9
    have x0 := HI.out.c0
    have x1 := HI.out.c1
    have x2 := HI.out.c2
    have x3 := HI.out.c3
    have x4 := HI.out.c4
    go_wp2_with fail
    refine (D3.out _ _ _ (HP.out.below HI.out.below (Nat.le_refl _)) RP.out).mono ?_
    rintro e w12 ⟨ab12, cb12, rfl, ho, hB⟩
    have RB := Lib.hid (RB.out.below hB (Nat.le_refl _))
    have RY := Lib.hid (RY.out.below hB (Nat.le_refl _))
    have RS := Lib.hid (RS.out.below hB (Nat.le_refl _))
    have RP := Lib.hid (RP.out.below hB (Nat.le_refl _))
    have RE := Lib.hid (RE.out.below hB (Nat.le_refl _))
    have HI := Lib.hid (HI.out.low hB)
    have RA := Lib.hid (ho)
    clear hB x0 x1 x2 x3 x4 ho
    have x0 := HI.out.c0
    have x1 := HI.out.c1
    have x2 := HI.out.c2
    have x3 := HI.out.c3
    have x4 := HI.out.c4
    go_wp2_with fail
    refine (D4.out _ _ _ _ _ RA.out RE.out).mono ?_
    rintro e w13 ⟨rfl, hB⟩
    have RB := Lib.hid (RB.out.below hB (Nat.le_refl _))
    have RY := Lib.hid (RY.out.below hB (Nat.le_refl _))
    have RS := Lib.hid (RS.out.below hB (Nat.le_refl _))
    have RP := Lib.hid (RP.out.below hB (Nat.le_refl _))
    have RE := Lib.hid (RE.out.below hB (Nat.le_refl _))
    have RA := Lib.hid (RA.out.below hB (Nat.le_refl _))
    have HI := Lib.hid (HI.out.low hB)
    clear hB x0 x1 x2 x3 x4
    have x0 := HI.out.c0
    have x1 := HI.out.c1
    have x2 := HI.out.c2
    have x3 := HI.out.c3
    have x4 := HI.out.c4
    go_wp2_with fail
    refine (D5.out _ _ _ _ _ RA.out RY.out).mono ?_
    rintro e w14 ⟨rfl, hB⟩
    have RB := Lib.hid (RB.out.below hB (Nat.le_refl _))
    have RY := Lib.hid (RY.out.below hB (Nat.le_refl _))
    have RS := Lib.hid (RS.out.below hB (Nat.le_refl _))
    have RP := Lib.hid (RP.out.below hB (Nat.le_refl _))
    have RE := Lib.hid (RE.out.below hB (Nat.le_refl _))
    have RA := Lib.hid (RA.out.below hB (Nat.le_refl _))
    have HI := Lib.hid (HI.out.low hB)
    clear hB x0 x1 x2 x3 x4
    have x0 := HI.out.c0
    have x1 := HI.out.c1
    have x2 := HI.out.c2
    have x3 := HI.out.c3
    have x4 := HI.out.c4
    go_wp2_with fail
    refine (D6.out _ _ _ RA.out).mono ?_
    rintro e w15 ⟨rfl, hB⟩
    have RB := Lib.hid (RB.out.below hB (Nat.le_refl _))
    have RY := Lib.hid (RY.out.below hB (Nat.le_refl _))
    have RS := Lib.hid (RS.out.below hB (Nat.le_refl _))
    have RP := Lib.hid (RP.out.below hB (Nat.le_refl _))
    have RE := Lib.hid (RE.out.below hB (Nat.le_refl _))
    have RA := Lib.hid (RA.out.below hB (Nat.le_refl _))
    have HI := Lib.hid (HI.out.low hB)
    clear hB x0 x1 x2 x3 x4
    have x0 := HI.out.c0
    have x1 := HI.out.c1
    have x2 := HI.out.c2
    have x3 := HI.out.c3
    have x4 := HI.out.c4
    go_wp2_with fail
    refine (C9.out _ (HP.out.below HI.out.below (Nat.le_refl _)) (HS.out.below HI.out.below (Nat.le_refl _)) (HT.out.below HI.out.below (Nat.le_refl _))).mono ?_
    rintro e w16 ⟨rfl, hB⟩
    have RB := Lib.hid (RB.out.below hB (Nat.le_refl _))
    have RY := Lib.hid (RY.out.below hB (Nat.le_refl _))
    have RS := Lib.hid (RS.out.below hB (Nat.le_refl _))
    have RP := Lib.hid (RP.out.below hB (Nat.le_refl _))
    have RE := Lib.hid (RE.out.below hB (Nat.le_refl _))
    have RA := Lib.hid (RA.out.below hB (Nat.le_refl _))
    have HI := Lib.hid (HI.out.low hB)
    clear hB x0 x1 x2 x3 x4
    have x0 := HI.out.c0
    have x1 := HI.out.c1
    have x2 := HI.out.c2
    have x3 := HI.out.c3
    have x4 := HI.out.c4
    go_wp2_with fail
    go_ret
    exact ⟨rfl, HI.out.below⟩
  · rw [hr] at C9
    replace C9 : Hid (∀ w, LinesAt w g ps → IntsAt w a lo → IntsAt w b hi → Calls _ _ _ w fun e w' => e = .returned (.tuple #[.bool PE, .int .i64 0]) ∧ Below w.heap.size w w') := C9
    by_cases hne : (gAt B r).lo = (gAt B r).hi
    · have H6 := Lib.hid (fun a2 c2 w h => tHalves6 a2 c2 B r w h hok hr hne)
      generalize endB ps B = Y at *
      clear hne z1 hok hv hoy hg hhf e1 e2 e3
      cases PE
      · clear k1 k2 k3
        go_enter Try.func7, Try.ntmps7
        go_upto_region 1 with fail
        generalize World.alloc _ _ = W0 at *
        clear x0 x1 x2 x3 x4
        go_wp2_with fail
        refine (kReached _ _ _ (lines_blk (hp_alloc (hp_new rfl))) (ranges_blk (hp_new (by simp)))).mono ?_
        rintro e wk1 ⟨ak, ck, rfl, rk, hB⟩
        have HI := Lib.hid (HI.out.low ((((Below.refl _ _).alloc (Nat.le_refl _) _).alloc (by simp) _).trans (hB.mono (by simp; omega))))
        have RK := Lib.hid rk
        clear hB rk
        go_wp2_with fail
        refine (same_self 2 _ _ _ _ [0, 1] _ rfl (RK.out.below ((Below.refl _ _).alloc (Nat.le_refl _) _) (Nat.le_refl _)) (ints_lit2 _) (by omega)).mono ?_
        rintro e wk2 ⟨rfl, hB⟩
        have HI := Lib.hid (HI.out.low (((Below.refl _ _).alloc (Nat.le_refl _) _).trans (hB.mono (by simp))))
        clear hB RK
        have x0 := HI.out.c0
        have x1 := HI.out.c1
        have x2 := HI.out.c2
        have x3 := HI.out.c3
        have x4 := HI.out.c4
        go_wp2_with fail
        refine (HLG.out _).mono ?_
        rintro e w0 ⟨rfl, rfl⟩
        go_wp2_with fail
        refine (HW.out _ ).mono ?_
        rintro e w1 ⟨rfl, hB⟩
        have HI := Lib.hid (HI.out.low hB)
        clear hB x0 x1 x2 x3 x4
        have x0 := HI.out.c0
        have x1 := HI.out.c1
        have x2 := HI.out.c2
        have x3 := HI.out.c3
        have x4 := HI.out.c4
        go_wp2_with fail
        refine (C1.out _ (HP.out.below HI.out.below (Nat.le_refl _)) (HS.out.below HI.out.below (Nat.le_refl _)) (HT.out.below HI.out.below (Nat.le_refl _))).mono ?_
        rintro e w2 ⟨rfl, hB⟩
        have HI := Lib.hid (HI.out.low hB)
        clear hB x0 x1 x2 x3 x4
        have x0 := HI.out.c0
        have x1 := HI.out.c1
        have x2 := HI.out.c2
        have x3 := HI.out.c3
        have x4 := HI.out.c4
        go_wp2_with fail
        refine (C2.out _ (HP.out.below HI.out.below (Nat.le_refl _)) (HS.out.below HI.out.below (Nat.le_refl _)) (HT.out.below HI.out.below (Nat.le_refl _))).mono ?_
        rintro e w3 ⟨rfl, hB⟩
        have HI := Lib.hid (HI.out.low hB)
        clear hB x0 x1 x2 x3 x4
        have x0 := HI.out.c0
        have x1 := HI.out.c1
        have x2 := HI.out.c2
        have x3 := HI.out.c3
        have x4 := HI.out.c4
        go_wp2_with fail
        refine (C3.out _ (HP.out.below HI.out.below (Nat.le_refl _)) (HS.out.below HI.out.below (Nat.le_refl _)) (HT.out.below HI.out.below (Nat.le_refl _))).mono ?_
        rintro e w4 ⟨rfl, hB⟩
        have HI := Lib.hid (HI.out.low hB)
        clear hB x0 x1 x2 x3 x4
        have x0 := HI.out.c0
        have x1 := HI.out.c1
        have x2 := HI.out.c2
        have x3 := HI.out.c3
        have x4 := HI.out.c4
        go_wp2_with fail
        refine (C4.out _ (HS.out.below HI.out.below (Nat.le_refl _)) (HT.out.below HI.out.below (Nat.le_refl _))).mono ?_
        rintro e w5 ⟨ab5, cb5, rfl, ho, hB⟩
        have HI := Lib.hid (HI.out.low hB)
        have RB := Lib.hid (ho)
        clear hB x0 x1 x2 x3 x4 ho
        have x0 := HI.out.c0
        have x1 := HI.out.c1
        have x2 := HI.out.c2
        have x3 := HI.out.c3
        have x4 := HI.out.c4
        go_wp2_with fail
        refine (C5.out _ (HP.out.below HI.out.below (Nat.le_refl _)) (HS.out.below HI.out.below (Nat.le_refl _)) (HT.out.below HI.out.below (Nat.le_refl _))).mono ?_
        rintro e w6 ⟨rfl, hB⟩
        have RB := Lib.hid (RB.out.below hB (Nat.le_refl _))
        have HI := Lib.hid (HI.out.low hB)
        clear hB x0 x1 x2 x3 x4
        have x0 := HI.out.c0
        have x1 := HI.out.c1
        have x2 := HI.out.c2
        have x3 := HI.out.c3
        have x4 := HI.out.c4
        go_wp2_with fail
        refine (C6.out _ (HP.out.below HI.out.below (Nat.le_refl _)) (HS.out.below HI.out.below (Nat.le_refl _)) (HT.out.below HI.out.below (Nat.le_refl _))).mono ?_
        rintro e w7 ⟨rfl, hB⟩
        have RB := Lib.hid (RB.out.below hB (Nat.le_refl _))
        have HI := Lib.hid (HI.out.low hB)
        clear hB x0 x1 x2 x3 x4
        have x0 := HI.out.c0
        have x1 := HI.out.c1
        have x2 := HI.out.c2
        have x3 := HI.out.c3
        have x4 := HI.out.c4
        go_wp2_with fail
        refine (C7.out _ _ _ (HP.out.below HI.out.below (Nat.le_refl _)) RB.out).mono ?_
        rintro e w8 ⟨ab8, cb8, rfl, ho, hB⟩
        have RB := Lib.hid (RB.out.below hB (Nat.le_refl _))
        have HI := Lib.hid (HI.out.low hB)
        have RY := Lib.hid (ho)
        clear hB x0 x1 x2 x3 x4 ho
        have x0 := HI.out.c0
        have x1 := HI.out.c1
        have x2 := HI.out.c2
        have x3 := HI.out.c3
        have x4 := HI.out.c4
        obtain ⟨gy, fy, yy, ey, hgy, hyy, y0, y1⟩ := RY.out.at_ (k := out.toNat) (by rw [HYL.out]; exact u1)
        subst ey
        rw [HYO.out] at hyy
        injection hyy with hyy
        subst hyy
        go_wp2_with fail
        go_quiet (fail)
        have HIQ : ∀ q, BoxC _ _ _ _ _ _ _ _ _ _ _ (World.drewN _ q) := fun q => HI.out.drewN q
        have HRQ : ∀ q, Below w8.heap.size w8 (w8.drewN q) := fun q => below_dn (Below.refl _ _)
        generalize hWq : World.drewN w8 _ = WQ at *
        have hBq := hWq ▸ HRQ _
        clear HIQ HRQ hWq
        have HI := Lib.hid (HI.out.low hBq)
        have RB := Lib.hid (RB.out.below hBq (Nat.le_refl _))
        have RY := Lib.hid (RY.out.below hBq (Nat.le_refl _))
        clear hBq x0 x1 x2 x3 x4 y0 y1
        have x0 := HI.out.c0
        have x1 := HI.out.c1
        have x2 := HI.out.c2
        have x3 := HI.out.c3
        have x4 := HI.out.c4
        go_wp2_with fail
        refine (C8.out _ (HP.out.below HI.out.below (Nat.le_refl _)) (HS.out.below HI.out.below (Nat.le_refl _)) (HT.out.below HI.out.below (Nat.le_refl _))).mono ?_
        rintro e w9 ⟨a8, k8, rfl, i8, hB⟩
        have RB := Lib.hid (RB.out.below hB (Nat.le_refl _))
        have RY := Lib.hid (RY.out.below hB (Nat.le_refl _))
        have HI := Lib.hid (HI.out.low hB)
        have RS := Lib.hid (i8)
        clear hB x0 x1 x2 x3 x4 i8
        have x0 := HI.out.c0
        have x1 := HI.out.c1
        have x2 := HI.out.c2
        have x3 := HI.out.c3
        have x4 := HI.out.c4
        go_wp2_with fail
        refine (D1.out _ _ _ RS.out).mono ?_
        rintro e w10 ⟨ab10, cb10, rfl, ho, hB⟩
        have RB := Lib.hid (RB.out.below hB (Nat.le_refl _))
        have RY := Lib.hid (RY.out.below hB (Nat.le_refl _))
        have RS := Lib.hid (RS.out.below hB (Nat.le_refl _))
        have HI := Lib.hid (HI.out.low hB)
        have RP := Lib.hid (ho)
        clear hB x0 x1 x2 x3 x4 ho
        have x0 := HI.out.c0
        have x1 := HI.out.c1
        have x2 := HI.out.c2
        have x3 := HI.out.c3
        have x4 := HI.out.c4
        go_wp2_with fail
        refine (D2.out _ _ _ (HP.out.below HI.out.below (Nat.le_refl _)) RS.out).mono ?_
        rintro e w11 ⟨a9, k9, rfl, i9, hB⟩
        have RB := Lib.hid (RB.out.below hB (Nat.le_refl _))
        have RY := Lib.hid (RY.out.below hB (Nat.le_refl _))
        have RS := Lib.hid (RS.out.below hB (Nat.le_refl _))
        have RP := Lib.hid (RP.out.below hB (Nat.le_refl _))
        have HI := Lib.hid (HI.out.low hB)
        have RE := Lib.hid (i9)
        clear hB x0 x1 x2 x3 x4 i9
        have x0 := HI.out.c0
        have x1 := HI.out.c1
        have x2 := HI.out.c2
        have x3 := HI.out.c3
        have x4 := HI.out.c4
        go_wp2_with fail
        refine (D3.out _ _ _ (HP.out.below HI.out.below (Nat.le_refl _)) RP.out).mono ?_
        rintro e w12 ⟨ab12, cb12, rfl, ho, hB⟩
        have RB := Lib.hid (RB.out.below hB (Nat.le_refl _))
        have RY := Lib.hid (RY.out.below hB (Nat.le_refl _))
        have RS := Lib.hid (RS.out.below hB (Nat.le_refl _))
        have RP := Lib.hid (RP.out.below hB (Nat.le_refl _))
        have RE := Lib.hid (RE.out.below hB (Nat.le_refl _))
        have HI := Lib.hid (HI.out.low hB)
        have RA := Lib.hid (ho)
        clear hB x0 x1 x2 x3 x4 ho
        have x0 := HI.out.c0
        have x1 := HI.out.c1
        have x2 := HI.out.c2
        have x3 := HI.out.c3
        have x4 := HI.out.c4
        go_wp2_with fail
        refine (D4.out _ _ _ _ _ RA.out RE.out).mono ?_
        rintro e w13 ⟨rfl, hB⟩
        have RB := Lib.hid (RB.out.below hB (Nat.le_refl _))
        have RY := Lib.hid (RY.out.below hB (Nat.le_refl _))
        have RS := Lib.hid (RS.out.below hB (Nat.le_refl _))
        have RP := Lib.hid (RP.out.below hB (Nat.le_refl _))
        have RE := Lib.hid (RE.out.below hB (Nat.le_refl _))
        have RA := Lib.hid (RA.out.below hB (Nat.le_refl _))
        have HI := Lib.hid (HI.out.low hB)
        clear hB x0 x1 x2 x3 x4
        have x0 := HI.out.c0
        have x1 := HI.out.c1
        have x2 := HI.out.c2
        have x3 := HI.out.c3
        have x4 := HI.out.c4
        go_wp2_with fail
        refine (D5.out _ _ _ _ _ RA.out RY.out).mono ?_
        rintro e w14 ⟨rfl, hB⟩
        have RB := Lib.hid (RB.out.below hB (Nat.le_refl _))
        have RY := Lib.hid (RY.out.below hB (Nat.le_refl _))
        have RS := Lib.hid (RS.out.below hB (Nat.le_refl _))
        have RP := Lib.hid (RP.out.below hB (Nat.le_refl _))
        have RE := Lib.hid (RE.out.below hB (Nat.le_refl _))
        have RA := Lib.hid (RA.out.below hB (Nat.le_refl _))
        have HI := Lib.hid (HI.out.low hB)
        clear hB x0 x1 x2 x3 x4
        have x0 := HI.out.c0
        have x1 := HI.out.c1
        have x2 := HI.out.c2
        have x3 := HI.out.c3
        have x4 := HI.out.c4
        go_wp2_with fail
        refine (D6.out _ _ _ RA.out).mono ?_
        rintro e w15 ⟨rfl, hB⟩
        have RB := Lib.hid (RB.out.below hB (Nat.le_refl _))
        have RY := Lib.hid (RY.out.below hB (Nat.le_refl _))
        have RS := Lib.hid (RS.out.below hB (Nat.le_refl _))
        have RP := Lib.hid (RP.out.below hB (Nat.le_refl _))
        have RE := Lib.hid (RE.out.below hB (Nat.le_refl _))
        have RA := Lib.hid (RA.out.below hB (Nat.le_refl _))
        have HI := Lib.hid (HI.out.low hB)
        clear hB x0 x1 x2 x3 x4
        have x0 := HI.out.c0
        have x1 := HI.out.c1
        have x2 := HI.out.c2
        have x3 := HI.out.c3
        have x4 := HI.out.c4
        go_wp2_with fail
        refine (C9.out _ (HP.out.below HI.out.below (Nat.le_refl _)) (HS.out.below HI.out.below (Nat.le_refl _)) (HT.out.below HI.out.below (Nat.le_refl _))).mono ?_
        rintro e w16 ⟨rfl, hB⟩
        have RB := Lib.hid (RB.out.below hB (Nat.le_refl _))
        have RY := Lib.hid (RY.out.below hB (Nat.le_refl _))
        have RS := Lib.hid (RS.out.below hB (Nat.le_refl _))
        have RP := Lib.hid (RP.out.below hB (Nat.le_refl _))
        have RE := Lib.hid (RE.out.below hB (Nat.le_refl _))
        have RA := Lib.hid (RA.out.below hB (Nat.le_refl _))
        have HI := Lib.hid (HI.out.low hB)
        clear hB x0 x1 x2 x3 x4
        have x0 := HI.out.c0
        have x1 := HI.out.c1
        have x2 := HI.out.c2
        have x3 := HI.out.c3
        have x4 := HI.out.c4
        go_wp2_with fail
        refine (H6.out _ _ _ RB.out).mono ?_
        rintro e w17 ⟨ah, bh, ch, dh, rfl, hB⟩
        have RB := Lib.hid (RB.out.below hB (Nat.le_refl _))
        have RY := Lib.hid (RY.out.below hB (Nat.le_refl _))
        have RS := Lib.hid (RS.out.below hB (Nat.le_refl _))
        have RP := Lib.hid (RP.out.below hB (Nat.le_refl _))
        have RE := Lib.hid (RE.out.below hB (Nat.le_refl _))
        have RA := Lib.hid (RA.out.below hB (Nat.le_refl _))
        have HI := Lib.hid (HI.out.low hB)
        clear hB x0 x1 x2 x3 x4
        have x0 := HI.out.c0
        have x1 := HI.out.c1
        have x2 := HI.out.c2
        have x3 := HI.out.c3
        have x4 := HI.out.c4
        go_wp2_with fail
        go_ret
        exact ⟨rfl, HI.out.below⟩
      · exact absurd (k3 hr rfl) (by simp)
    · have hhi := hhf hr hne
      obtain ⟨r0, r3⟩ := isReg_iff.1 hr
      obtain ⟨okl, okh⟩ := halves_ok hok r0 r3 hne
      obtain ⟨sl, sh⟩ := halves_sub hok r0 r3 hne
      have oel := end_ok hv okl
      have oeh := end_ok hv okh
      have oeu := okB_hull oel oeh
      have H0 := Lib.hid (fun a2 c2 w h => tHalves a2 c2 B r w h hok hr hne)
      have E1 := Lib.hid (fun a2 c2 w h1 h2 => tAfter g a2 cg c2 ps (loH B r) w h1 h2 z1 okl)
      have E2 := Lib.hid (fun a2 c2 w h1 h2 => tAfter g a2 cg c2 ps (hiH B r) w h1 h2 z1 okh)
      have E3 := Lib.hid (fun a1 a2 c1 c2 w h1 h2 => tHull a1 a2 c1 c2 (endB ps (loH B r)) (endB ps (hiH B r)) w h1 h2 oel oeh)
      have E4 := Lib.hid (fun a1 a2 c1 c2 w h1 h2 => tWithin a1 a2 c1 c2 (hullB (endB ps (loH B r)) (endB ps (hiH B r))) (endB ps B) w h1 h2 oeu hoy (sub_hull oel.l4 oeh.l4 (end_mono hv okl hok sl) (end_mono hv okh hok sh)))
      have HUL := Lib.hid oeu.l4
      obtain ⟨uo, huo⟩ := get_of_lt (show out.toNat < (hullB (endB ps (loH B r)) (endB ps (hiH B r))).length by rw [HUL.out]; omega)
      have HUO := Lib.hid huo
      have eu : gAt (hullB (endB ps (loH B r)) (endB ps (hiH B r))) out = uo := getD_of_get huo
      rw [eu] at hhi
      obtain ⟨i1, i2⟩ := hhi
      have c8 : decide (uo.lo ≤ l) = true := decide_eq_true i1
      have c9 : decide (m ≤ uo.hi) = true := decide_eq_true i2
      clear huo eu
      generalize hullB (endB ps (loH B r)) (endB ps (hiH B r)) = U at *
      generalize endB ps (loH B r) = EL at *
      generalize endB ps (hiH B r) = EH at *
      generalize loH B r = BL at *
      generalize hiH B r = BH at *
      generalize endB ps B = Y at *
      clear hne z1 hok hv hoy hg hhf e1 e2 e3 okl okh sl sh oel oeh oeu i1 i2 r0 r3
      cases PE
      · clear k1 k2 k3
        go_enter Try.func7, Try.ntmps7
        go_upto_region 1 with fail
        generalize World.alloc _ _ = W0 at *
        clear x0 x1 x2 x3 x4
        go_wp2_with fail
        refine (kReached _ _ _ (lines_blk (hp_alloc (hp_new rfl))) (ranges_blk (hp_new (by simp)))).mono ?_
        rintro e wk1 ⟨ak, ck, rfl, rk, hB⟩
        have HI := Lib.hid (HI.out.low ((((Below.refl _ _).alloc (Nat.le_refl _) _).alloc (by simp) _).trans (hB.mono (by simp; omega))))
        have RK := Lib.hid rk
        clear hB rk
        go_wp2_with fail
        refine (same_self 2 _ _ _ _ [0, 1] _ rfl (RK.out.below ((Below.refl _ _).alloc (Nat.le_refl _) _) (Nat.le_refl _)) (ints_lit2 _) (by omega)).mono ?_
        rintro e wk2 ⟨rfl, hB⟩
        have HI := Lib.hid (HI.out.low (((Below.refl _ _).alloc (Nat.le_refl _) _).trans (hB.mono (by simp))))
        clear hB RK
        have x0 := HI.out.c0
        have x1 := HI.out.c1
        have x2 := HI.out.c2
        have x3 := HI.out.c3
        have x4 := HI.out.c4
        go_wp2_with fail
        refine (HLG.out _).mono ?_
        rintro e w0 ⟨rfl, rfl⟩
        go_wp2_with fail
        refine (HW.out _ ).mono ?_
        rintro e w1 ⟨rfl, hB⟩
        have HI := Lib.hid (HI.out.low hB)
        clear hB x0 x1 x2 x3 x4
        have x0 := HI.out.c0
        have x1 := HI.out.c1
        have x2 := HI.out.c2
        have x3 := HI.out.c3
        have x4 := HI.out.c4
        go_wp2_with fail
        refine (C1.out _ (HP.out.below HI.out.below (Nat.le_refl _)) (HS.out.below HI.out.below (Nat.le_refl _)) (HT.out.below HI.out.below (Nat.le_refl _))).mono ?_
        rintro e w2 ⟨rfl, hB⟩
        have HI := Lib.hid (HI.out.low hB)
        clear hB x0 x1 x2 x3 x4
        have x0 := HI.out.c0
        have x1 := HI.out.c1
        have x2 := HI.out.c2
        have x3 := HI.out.c3
        have x4 := HI.out.c4
        go_wp2_with fail
        refine (C2.out _ (HP.out.below HI.out.below (Nat.le_refl _)) (HS.out.below HI.out.below (Nat.le_refl _)) (HT.out.below HI.out.below (Nat.le_refl _))).mono ?_
        rintro e w3 ⟨rfl, hB⟩
        have HI := Lib.hid (HI.out.low hB)
        clear hB x0 x1 x2 x3 x4
        have x0 := HI.out.c0
        have x1 := HI.out.c1
        have x2 := HI.out.c2
        have x3 := HI.out.c3
        have x4 := HI.out.c4
        go_wp2_with fail
        refine (C3.out _ (HP.out.below HI.out.below (Nat.le_refl _)) (HS.out.below HI.out.below (Nat.le_refl _)) (HT.out.below HI.out.below (Nat.le_refl _))).mono ?_
        rintro e w4 ⟨rfl, hB⟩
        have HI := Lib.hid (HI.out.low hB)
        clear hB x0 x1 x2 x3 x4
        have x0 := HI.out.c0
        have x1 := HI.out.c1
        have x2 := HI.out.c2
        have x3 := HI.out.c3
        have x4 := HI.out.c4
        go_wp2_with fail
        refine (C4.out _ (HS.out.below HI.out.below (Nat.le_refl _)) (HT.out.below HI.out.below (Nat.le_refl _))).mono ?_
        rintro e w5 ⟨ab5, cb5, rfl, ho, hB⟩
        have HI := Lib.hid (HI.out.low hB)
        have RB := Lib.hid (ho)
        clear hB x0 x1 x2 x3 x4 ho
        have x0 := HI.out.c0
        have x1 := HI.out.c1
        have x2 := HI.out.c2
        have x3 := HI.out.c3
        have x4 := HI.out.c4
        go_wp2_with fail
        refine (C5.out _ (HP.out.below HI.out.below (Nat.le_refl _)) (HS.out.below HI.out.below (Nat.le_refl _)) (HT.out.below HI.out.below (Nat.le_refl _))).mono ?_
        rintro e w6 ⟨rfl, hB⟩
        have RB := Lib.hid (RB.out.below hB (Nat.le_refl _))
        have HI := Lib.hid (HI.out.low hB)
        clear hB x0 x1 x2 x3 x4
        have x0 := HI.out.c0
        have x1 := HI.out.c1
        have x2 := HI.out.c2
        have x3 := HI.out.c3
        have x4 := HI.out.c4
        go_wp2_with fail
        refine (C6.out _ (HP.out.below HI.out.below (Nat.le_refl _)) (HS.out.below HI.out.below (Nat.le_refl _)) (HT.out.below HI.out.below (Nat.le_refl _))).mono ?_
        rintro e w7 ⟨rfl, hB⟩
        have RB := Lib.hid (RB.out.below hB (Nat.le_refl _))
        have HI := Lib.hid (HI.out.low hB)
        clear hB x0 x1 x2 x3 x4
        have x0 := HI.out.c0
        have x1 := HI.out.c1
        have x2 := HI.out.c2
        have x3 := HI.out.c3
        have x4 := HI.out.c4
        go_wp2_with fail
        refine (C7.out _ _ _ (HP.out.below HI.out.below (Nat.le_refl _)) RB.out).mono ?_
        rintro e w8 ⟨ab8, cb8, rfl, ho, hB⟩
        have RB := Lib.hid (RB.out.below hB (Nat.le_refl _))
        have HI := Lib.hid (HI.out.low hB)
        have RY := Lib.hid (ho)
        clear hB x0 x1 x2 x3 x4 ho
        have x0 := HI.out.c0
        have x1 := HI.out.c1
        have x2 := HI.out.c2
        have x3 := HI.out.c3
        have x4 := HI.out.c4
        obtain ⟨gy, fy, yy, ey, hgy, hyy, y0, y1⟩ := RY.out.at_ (k := out.toNat) (by rw [HYL.out]; exact u1)
        subst ey
        rw [HYO.out] at hyy
        injection hyy with hyy
        subst hyy
        go_wp2_with fail
        go_quiet (fail)
        have HIQ : ∀ q, BoxC _ _ _ _ _ _ _ _ _ _ _ (World.drewN _ q) := fun q => HI.out.drewN q
        have HRQ : ∀ q, Below w8.heap.size w8 (w8.drewN q) := fun q => below_dn (Below.refl _ _)
        generalize hWq : World.drewN w8 _ = WQ at *
        have hBq := hWq ▸ HRQ _
        clear HIQ HRQ hWq
        have HI := Lib.hid (HI.out.low hBq)
        have RB := Lib.hid (RB.out.below hBq (Nat.le_refl _))
        have RY := Lib.hid (RY.out.below hBq (Nat.le_refl _))
        clear hBq x0 x1 x2 x3 x4 y0 y1
        have x0 := HI.out.c0
        have x1 := HI.out.c1
        have x2 := HI.out.c2
        have x3 := HI.out.c3
        have x4 := HI.out.c4
        go_wp2_with fail
        refine (C8.out _ (HP.out.below HI.out.below (Nat.le_refl _)) (HS.out.below HI.out.below (Nat.le_refl _)) (HT.out.below HI.out.below (Nat.le_refl _))).mono ?_
        rintro e w9 ⟨a8, k8, rfl, i8, hB⟩
        have RB := Lib.hid (RB.out.below hB (Nat.le_refl _))
        have RY := Lib.hid (RY.out.below hB (Nat.le_refl _))
        have HI := Lib.hid (HI.out.low hB)
        have RS := Lib.hid (i8)
        clear hB x0 x1 x2 x3 x4 i8
        have x0 := HI.out.c0
        have x1 := HI.out.c1
        have x2 := HI.out.c2
        have x3 := HI.out.c3
        have x4 := HI.out.c4
        go_wp2_with fail
        refine (D1.out _ _ _ RS.out).mono ?_
        rintro e w10 ⟨ab10, cb10, rfl, ho, hB⟩
        have RB := Lib.hid (RB.out.below hB (Nat.le_refl _))
        have RY := Lib.hid (RY.out.below hB (Nat.le_refl _))
        have RS := Lib.hid (RS.out.below hB (Nat.le_refl _))
        have HI := Lib.hid (HI.out.low hB)
        have RP := Lib.hid (ho)
        clear hB x0 x1 x2 x3 x4 ho
        have x0 := HI.out.c0
        have x1 := HI.out.c1
        have x2 := HI.out.c2
        have x3 := HI.out.c3
        have x4 := HI.out.c4
        go_wp2_with fail
        refine (D2.out _ _ _ (HP.out.below HI.out.below (Nat.le_refl _)) RS.out).mono ?_
        rintro e w11 ⟨a9, k9, rfl, i9, hB⟩
        have RB := Lib.hid (RB.out.below hB (Nat.le_refl _))
        have RY := Lib.hid (RY.out.below hB (Nat.le_refl _))
        have RS := Lib.hid (RS.out.below hB (Nat.le_refl _))
        have RP := Lib.hid (RP.out.below hB (Nat.le_refl _))
        have HI := Lib.hid (HI.out.low hB)
        have RE := Lib.hid (i9)
        clear hB x0 x1 x2 x3 x4 i9
        have x0 := HI.out.c0
        have x1 := HI.out.c1
        have x2 := HI.out.c2
        have x3 := HI.out.c3
        have x4 := HI.out.c4
        go_wp2_with fail
        refine (D3.out _ _ _ (HP.out.below HI.out.below (Nat.le_refl _)) RP.out).mono ?_
        rintro e w12 ⟨ab12, cb12, rfl, ho, hB⟩
        have RB := Lib.hid (RB.out.below hB (Nat.le_refl _))
        have RY := Lib.hid (RY.out.below hB (Nat.le_refl _))
        have RS := Lib.hid (RS.out.below hB (Nat.le_refl _))
        have RP := Lib.hid (RP.out.below hB (Nat.le_refl _))
        have RE := Lib.hid (RE.out.below hB (Nat.le_refl _))
        have HI := Lib.hid (HI.out.low hB)
        have RA := Lib.hid (ho)
        clear hB x0 x1 x2 x3 x4 ho
        have x0 := HI.out.c0
        have x1 := HI.out.c1
        have x2 := HI.out.c2
        have x3 := HI.out.c3
        have x4 := HI.out.c4
        go_wp2_with fail
        refine (D4.out _ _ _ _ _ RA.out RE.out).mono ?_
        rintro e w13 ⟨rfl, hB⟩
        have RB := Lib.hid (RB.out.below hB (Nat.le_refl _))
        have RY := Lib.hid (RY.out.below hB (Nat.le_refl _))
        have RS := Lib.hid (RS.out.below hB (Nat.le_refl _))
        have RP := Lib.hid (RP.out.below hB (Nat.le_refl _))
        have RE := Lib.hid (RE.out.below hB (Nat.le_refl _))
        have RA := Lib.hid (RA.out.below hB (Nat.le_refl _))
        have HI := Lib.hid (HI.out.low hB)
        clear hB x0 x1 x2 x3 x4
        have x0 := HI.out.c0
        have x1 := HI.out.c1
        have x2 := HI.out.c2
        have x3 := HI.out.c3
        have x4 := HI.out.c4
        go_wp2_with fail
        refine (D5.out _ _ _ _ _ RA.out RY.out).mono ?_
        rintro e w14 ⟨rfl, hB⟩
        have RB := Lib.hid (RB.out.below hB (Nat.le_refl _))
        have RY := Lib.hid (RY.out.below hB (Nat.le_refl _))
        have RS := Lib.hid (RS.out.below hB (Nat.le_refl _))
        have RP := Lib.hid (RP.out.below hB (Nat.le_refl _))
        have RE := Lib.hid (RE.out.below hB (Nat.le_refl _))
        have RA := Lib.hid (RA.out.below hB (Nat.le_refl _))
        have HI := Lib.hid (HI.out.low hB)
        clear hB x0 x1 x2 x3 x4
        have x0 := HI.out.c0
        have x1 := HI.out.c1
        have x2 := HI.out.c2
        have x3 := HI.out.c3
        have x4 := HI.out.c4
        go_wp2_with fail
        refine (D6.out _ _ _ RA.out).mono ?_
        rintro e w15 ⟨rfl, hB⟩
        have RB := Lib.hid (RB.out.below hB (Nat.le_refl _))
        have RY := Lib.hid (RY.out.below hB (Nat.le_refl _))
        have RS := Lib.hid (RS.out.below hB (Nat.le_refl _))
        have RP := Lib.hid (RP.out.below hB (Nat.le_refl _))
        have RE := Lib.hid (RE.out.below hB (Nat.le_refl _))
        have RA := Lib.hid (RA.out.below hB (Nat.le_refl _))
        have HI := Lib.hid (HI.out.low hB)
        clear hB x0 x1 x2 x3 x4
        have x0 := HI.out.c0
        have x1 := HI.out.c1
        have x2 := HI.out.c2
        have x3 := HI.out.c3
        have x4 := HI.out.c4
        go_wp2_with fail
        refine (C9.out _ (HP.out.below HI.out.below (Nat.le_refl _)) (HS.out.below HI.out.below (Nat.le_refl _)) (HT.out.below HI.out.below (Nat.le_refl _))).mono ?_
        rintro e w16 ⟨rfl, hB⟩
        have RB := Lib.hid (RB.out.below hB (Nat.le_refl _))
        have RY := Lib.hid (RY.out.below hB (Nat.le_refl _))
        have RS := Lib.hid (RS.out.below hB (Nat.le_refl _))
        have RP := Lib.hid (RP.out.below hB (Nat.le_refl _))
        have RE := Lib.hid (RE.out.below hB (Nat.le_refl _))
        have RA := Lib.hid (RA.out.below hB (Nat.le_refl _))
        have HI := Lib.hid (HI.out.low hB)
        clear hB x0 x1 x2 x3 x4
        have x0 := HI.out.c0
        have x1 := HI.out.c1
        have x2 := HI.out.c2
        have x3 := HI.out.c3
        have x4 := HI.out.c4
        go_wp2_with fail
        refine (H0.out _ _ _ RB.out).mono ?_
        rintro e w17 ⟨ah, bh, ch, dh, rfl, r1, r2, hB⟩
        have RB := Lib.hid (RB.out.below hB (Nat.le_refl _))
        have RY := Lib.hid (RY.out.below hB (Nat.le_refl _))
        have RS := Lib.hid (RS.out.below hB (Nat.le_refl _))
        have RP := Lib.hid (RP.out.below hB (Nat.le_refl _))
        have RE := Lib.hid (RE.out.below hB (Nat.le_refl _))
        have RA := Lib.hid (RA.out.below hB (Nat.le_refl _))
        have HI := Lib.hid (HI.out.low hB)
        have RL := Lib.hid (r1)
        have RH := Lib.hid (r2)
        clear hB x0 x1 x2 x3 x4 r1 r2
        have x0 := HI.out.c0
        have x1 := HI.out.c1
        have x2 := HI.out.c2
        have x3 := HI.out.c3
        have x4 := HI.out.c4
        go_wp2_with fail
        refine (E1.out _ _ _ (HP.out.below HI.out.below (Nat.le_refl _)) RL.out).mono ?_
        rintro e w18 ⟨ab18, cb18, rfl, ho, hB⟩
        have RB := Lib.hid (RB.out.below hB (Nat.le_refl _))
        have RY := Lib.hid (RY.out.below hB (Nat.le_refl _))
        have RS := Lib.hid (RS.out.below hB (Nat.le_refl _))
        have RP := Lib.hid (RP.out.below hB (Nat.le_refl _))
        have RE := Lib.hid (RE.out.below hB (Nat.le_refl _))
        have RA := Lib.hid (RA.out.below hB (Nat.le_refl _))
        have RL := Lib.hid (RL.out.below hB (Nat.le_refl _))
        have RH := Lib.hid (RH.out.below hB (Nat.le_refl _))
        have HI := Lib.hid (HI.out.low hB)
        have RX := Lib.hid (ho)
        clear hB x0 x1 x2 x3 x4 ho
        have x0 := HI.out.c0
        have x1 := HI.out.c1
        have x2 := HI.out.c2
        have x3 := HI.out.c3
        have x4 := HI.out.c4
        go_wp2_with fail
        refine (E2.out _ _ _ (HP.out.below HI.out.below (Nat.le_refl _)) RH.out).mono ?_
        rintro e w19 ⟨ab19, cb19, rfl, ho, hB⟩
        have RB := Lib.hid (RB.out.below hB (Nat.le_refl _))
        have RY := Lib.hid (RY.out.below hB (Nat.le_refl _))
        have RS := Lib.hid (RS.out.below hB (Nat.le_refl _))
        have RP := Lib.hid (RP.out.below hB (Nat.le_refl _))
        have RE := Lib.hid (RE.out.below hB (Nat.le_refl _))
        have RA := Lib.hid (RA.out.below hB (Nat.le_refl _))
        have RL := Lib.hid (RL.out.below hB (Nat.le_refl _))
        have RH := Lib.hid (RH.out.below hB (Nat.le_refl _))
        have RX := Lib.hid (RX.out.below hB (Nat.le_refl _))
        have HI := Lib.hid (HI.out.low hB)
        have RZ := Lib.hid (ho)
        clear hB x0 x1 x2 x3 x4 ho
        have x0 := HI.out.c0
        have x1 := HI.out.c1
        have x2 := HI.out.c2
        have x3 := HI.out.c3
        have x4 := HI.out.c4
        go_wp2_with fail
        refine (E3.out _ _ _ _ _ RX.out RZ.out).mono ?_
        rintro e w20 ⟨ab20, cb20, rfl, ho, hB⟩
        have RB := Lib.hid (RB.out.below hB (Nat.le_refl _))
        have RY := Lib.hid (RY.out.below hB (Nat.le_refl _))
        have RS := Lib.hid (RS.out.below hB (Nat.le_refl _))
        have RP := Lib.hid (RP.out.below hB (Nat.le_refl _))
        have RE := Lib.hid (RE.out.below hB (Nat.le_refl _))
        have RA := Lib.hid (RA.out.below hB (Nat.le_refl _))
        have RL := Lib.hid (RL.out.below hB (Nat.le_refl _))
        have RH := Lib.hid (RH.out.below hB (Nat.le_refl _))
        have RX := Lib.hid (RX.out.below hB (Nat.le_refl _))
        have RZ := Lib.hid (RZ.out.below hB (Nat.le_refl _))
        have HI := Lib.hid (HI.out.low hB)
        have RU := Lib.hid (ho)
        clear hB x0 x1 x2 x3 x4 ho
        have x0 := HI.out.c0
        have x1 := HI.out.c1
        have x2 := HI.out.c2
        have x3 := HI.out.c3
        have x4 := HI.out.c4
        go_wp2_with fail
        refine (E4.out _ _ _ _ _ RU.out RY.out).mono ?_
        rintro e w21 ⟨rfl, hB⟩
        have RB := Lib.hid (RB.out.below hB (Nat.le_refl _))
        have RY := Lib.hid (RY.out.below hB (Nat.le_refl _))
        have RS := Lib.hid (RS.out.below hB (Nat.le_refl _))
        have RP := Lib.hid (RP.out.below hB (Nat.le_refl _))
        have RE := Lib.hid (RE.out.below hB (Nat.le_refl _))
        have RA := Lib.hid (RA.out.below hB (Nat.le_refl _))
        have RL := Lib.hid (RL.out.below hB (Nat.le_refl _))
        have RH := Lib.hid (RH.out.below hB (Nat.le_refl _))
        have RX := Lib.hid (RX.out.below hB (Nat.le_refl _))
        have RZ := Lib.hid (RZ.out.below hB (Nat.le_refl _))
        have RU := Lib.hid (RU.out.below hB (Nat.le_refl _))
        have HI := Lib.hid (HI.out.low hB)
        clear hB x0 x1 x2 x3 x4
        have x0 := HI.out.c0
        have x1 := HI.out.c1
        have x2 := HI.out.c2
        have x3 := HI.out.c3
        have x4 := HI.out.c4
        obtain ⟨gu, fu, uu, eu, hgu, huu, y0, y1⟩ := RU.out.at_ (k := out.toNat) (by rw [HUL.out]; exact u1)
        subst eu
        rw [HUO.out] at huu
        injection huu with huu
        subst huu
        go_wp2_with fail
        go_ret
        exact ⟨rfl, HI.out.below⟩
      · exact absurd (k3 hr rfl) (by simp)

end Go.Proofs.Ytmpgaccpdglhkaa
