/- Tests in the document's answers; Passes of both: contracts. -/
import Derived.Test.YtikblaebfpdngaaGreatChkB
import Derived.Test.YtikblaebfpdngaaGreatChkA
set_option linter.unusedVariables false
set_option linter.unusedSimpArgs false
namespace Go.Proofs.YtikblaebfpdngaaGreat
open Go.RowKit Tinker

theorem within3_any (out : Int) (w : World) : Calls Tryz.prog 129 #[.int .i64 out, .int .i64 0, .int .i64 3] w fun e w' => e = .returned (.bool (isReg out)) ∧ w = w' := rWithin2_any out 0 3 w

set_option maxRecDepth 100000 in
set_option maxHeartbeats 1000000 in
theorem rIsTest_any (a : Option Addr) (ca : Nat) (t : T) (w : World) (hs : IntsAt w a t.inn) :
    Calls Tryz.prog 105 #[.agg #[.slice a t.inn.length ca, .int .i64 t.out, .int .i64 t.want]] w fun e w' => e = .returned (.bool (isT t)) ∧ Below w.heap.size w w' := by
  obtain ⟨inn, out, want⟩ := t
  have HI := Lib.hid (boxT_new (a := a) (n := inn.length) (ca := ca) (out := out) (want := want) w)
  have HV := Lib.hid (fun w h => rValidateState_any a ca inn w h)
  have HR := Lib.hid (fun w => within3_any out w)
  have HW := Lib.hid (fun w => rWithin2_any want (-999) 999 w)
  have HS := Lib.hid (hs.below HI.out.below (Nat.le_refl _))
  have x0 := HI.out.c0
  have x1 := HI.out.c1
  have x2 := HI.out.c2
  unfold isT
  by_cases hz : vs inn = 0
  · rw [show decide (vs inn = 0) = true by simpa using hz]
    rw [hz] at HV
    generalize isReg out = c1 at HR
    generalize btw want (-999) 999 = c2 at HW
    clear hz hs
    cases c1
    · go_enter Tryz.func105, Tryz.ntmps105
      go_wp2_with fail
      refine (HV.out _ HS.out).mono ?_
      rintro e w' ⟨rfl, rfl⟩
      go_wp2_with fail
      refine (HR.out _).mono ?_
      rintro e w' ⟨rfl, rfl⟩
      go_wp2_with fail
      go_ret
      exact ⟨rfl, HI.out.below⟩
    · go_enter Tryz.func105, Tryz.ntmps105
      go_wp2_with fail
      refine (HV.out _ HS.out).mono ?_
      rintro e w' ⟨rfl, rfl⟩
      go_wp2_with fail
      refine (HR.out _).mono ?_
      rintro e w' ⟨rfl, rfl⟩
      go_wp2_with fail
      refine (HW.out _).mono ?_
      rintro e w' ⟨rfl, rfl⟩
      go_wp2_with fail
      go_ret
      exact ⟨rfl, HI.out.below⟩
  · rw [show decide (vs inn = 0) = false by simpa using hz]
    have hz1 : (vs inn == 0) = false := by simpa using hz
    have hz2 : (vs inn != 0) = true := by simpa using hz
    generalize vs inn = c at HV hz1 hz2
    clear hz hs
    go_enter Tryz.func105, Tryz.ntmps105
    go_wp2_with fail
    refine (HV.out _ HS.out).mono ?_
    rintro e w' ⟨rfl, rfl⟩
    go_wp2_with fail
    go_ret
    exact ⟨rfl, HI.out.below⟩

set_option maxRecDepth 100000 in
set_option maxHeartbeats 1000000 in
theorem rValidateTests_any (g : Option Addr) (cap : Nat) (ts : List T) (w : World) (hts : TestsAt w g ts) :
    Calls Tryz.prog 81 #[.slice g ts.length cap] w fun e w' => e = .returned (.int .i64 (vts ts)) ∧ Below w.heap.size w w' := by
  by_cases h8 : ts.length ≤ 8
  · go_enter Tryz.func81, Tryz.ntmps81
    go_wp2_with fail
    go_loopw [3] (fun s wr => ∃ k : Nat, k ≤ ts.length ∧ s = .int .i64 k ∧ (ts.take k).all isT = true ∧ Below w.heap.size w wr) (fun s _ => ts.length - (intOf s).toNat)
    case atStart => exact ⟨0, Nat.zero_le _, rfl, by simp, Below.refl _ _⟩
    case round =>
      obtain ⟨k, hk, rfl, hall, hB⟩ := hrel
      have HA := Lib.hid hall
      clear hall
      by_cases hlt : k < ts.length
      · obtain ⟨b, off, t, a, c, rfl, hlb, ht, c0, c1, c2, hi⟩ := (hts.below hB (Nat.le_refl _)).at_ hlt
        have HTT := Lib.hid (fun w h => rIsTest_any a c t w h)
        have HT := Lib.hid ht
        have HS := Lib.hid hi
        clear ht hi
        cases hv : isT t
        · rw [hv] at HTT
          have HX := Lib.hid (show vts ts = 1 by unfold vts; rw [if_pos h8, if_neg (fun h => by have := List.all_eq_true.1 h t (mem_of_get HT.out); rw [hv] at this; cases this)])
          clear hv
          go_wp2_with fail
          refine (HTT.out _ HS.out).mono ?_
          rintro e w1 ⟨rfl, hB1⟩
          go_wp2_with fail
          go_ret
          exact ⟨ret_int HX.out.symm, hB.trans (hB1.mono hB.size)⟩
        · rw [hv] at HTT
          have HV := Lib.hid hv
          clear hv
          go_wp2_with fail
          refine (HTT.out _ HS.out).mono ?_
          rintro e w1 ⟨rfl, hB1⟩
          have HBB := Lib.hid (hB.trans (hB1.mono hB.size))
          clear hB1
          go_wp2_with fail
          go_roundw
          case rel => exact ⟨k + 1, by omega, by go_num, all_snoc HA.out HT.out HV.out, HBB.out⟩
          case measure => simp [intOf]; omega
      · have HX := Lib.hid (show vts ts = 0 by unfold vts; rw [if_pos h8, if_pos (all_whole HA.out hlt)])
        go_wp2_with fail
        go_ret
        exact ⟨ret_int HX.out.symm, hB⟩
  · have HX := Lib.hid (show vts ts = 3 by unfold vts; rw [if_neg h8])
    have h8' : 8 < ts.length := by omega
    have h8'' : (8 : Int) < (ts.length : Int) := by omega
    rw [HX.out]
    clear h8
    go_enter Tryz.func81, Tryz.ntmps81
    go_wp2_with fail
    go_ret
    exact ⟨rfl, Below.refl _ _⟩

set_option maxHeartbeats 400000 in
theorem rTested_any (a g : Option Addr) (ca cap : Nat) (ps : List L) (ts : List T) (w : World) (hp : LinesAt w a ps) (hts : TestsAt w g ts) :
    Calls Tryz.prog 130 #[.slice a ps.length ca, .slice g ts.length cap] w fun e w' => e = .returned (.int .i64 (vpt ps ts)) ∧ Below w.heap.size w w' := by
  have HP := Lib.hid (rValidate_any a ca ps w hp)
  have HS := Lib.hid (fun w hs => rValidateTests_any g cap ts w hs)
  by_cases h : vp ps = 0
  · have HE := Lib.hid (show vpt ps ts = vts ts by unfold vpt fe; rw [if_pos h])
    rw [HE.out]
    rw [h] at HP
    clear h
    go_enter Tryz.func130, Tryz.ntmps130
    go_wp2_with fail
    refine HP.out.mono ?_
    rintro e w1 ⟨rfl, hB⟩
    go_wp2_with fail
    refine (HS.out _ (hts.below hB (Nat.le_refl _))).mono ?_
    rintro e w2 ⟨rfl, hB2⟩
    go_wp2_with fail
    go_ret
    exact ⟨rfl, hB.trans (hB2.mono hB.size)⟩
  · have HE := Lib.hid (show vpt ps ts = vp ps by unfold vpt fe; rw [if_neg h])
    rw [HE.out]
    generalize vp ps = c at HP h
    have hz1 : (c != 0) = true := by simpa using h
    have hz2 : (c == 0) = false := by simpa using h
    clear h HE
    go_enter Tryz.func130, Tryz.ntmps130
    go_wp2_with fail
    refine HP.out.mono ?_
    rintro e w1 ⟨rfl, hB⟩
    go_wp2_with fail
    go_ret
    exact ⟨rfl, hB⟩

set_option maxRecDepth 100000 in
set_option maxHeartbeats 400000 in
theorem rMade_any (a b : Option Addr) (ca cb : Nat) (ps : List L) (s : List Int) (out : Int) (w : World) (hp : LinesAt w a ps) (hs : IntsAt w b s) (hz : vr ps s = 0) (ho : isReg out = true) :
    Calls Tryz.prog 131 #[.slice a ps.length ca, .slice b s.length cb, .int .i64 out] w fun e w' => e = .returned (.int .i64 (endP ps s out)) ∧ Below w.heap.size w w' := by
  have h4 := (vs_ok (vr_ok hz).2).1
  have hE := (runE_ok hz).1
  have HR := Lib.hid (fun w hp hs => rRun_any a b ca cb ps s w hp hs)
  have er : runL ps s = runE ps s := by unfold runL; rw [if_pos hz]
  rw [er, hz] at HR
  obtain ⟨r0, r3⟩ := isReg_iff.1 ho
  have HE := Lib.hid (show endP ps s out = (runE ps s).getD out.toNat 0 from rfl)
  generalize endP ps s out = V at HE
  generalize runE ps s = E at HR HE hE
  have H4 := Lib.hid hE
  clear er hz ho h4 hE
  go_enter Tryz.func131, Tryz.ntmps131
  go_wp2_with fail
  refine (HR.out _ hp hs).mono ?_
  intro e w1 hG
  obtain ⟨a1, k1, rfl, hi1, hB1⟩ := hG
  obtain ⟨eb, eo, x, rfl, hlb, hx, cx⟩ := hi1.at_ (show out.toNat < E.length by rw [H4.out]; omega)
  have HX := Lib.hid (show x = V by rw [HE.out, getD_of_get hx])
  have l1 : out < (E.length : Int) := by rw [H4.out]; omega
  clear hi1 hx
  go_wp2_with fail
  go_ret
  exact ⟨ret_int HX.out, hB1⟩

theorem tests_one {w : World} {n : Nat} {a : Option Addr} {ca : Nat} {t : T} (h : w.heap.size = n) (hi : IntsAt w a t.inn) :
    TestsAt (w.alloc (.cells #[.slice a t.inn.length ca, .int .i64 t.out, .int .i64 t.want] 40)) (some ⟨n, 0, none⟩) [t] := by
  subst h
  refine .inr ⟨w.heap.size, 0, rfl, by simp, fun j u hj => ?_⟩
  match j, hj with
  | 0, hj =>
    simp at hj; subst hj
    exact ⟨a, ca, hp_cell (hp_new rfl) rfl, hp_cell (hp_new rfl) rfl, hp_cell (hp_new rfl) rfl, hi.below ((Below.refl _ _).alloc (Nat.le_refl _) _) (Nat.le_refl _)⟩
  | j + 1, hj => simp at hj

/-- What Passes answers. -/
def passV (ps : List L) (t : T) : Bool := if vpt ps [t] = 0 then pas ps t else false

set_option maxRecDepth 100000 in
set_option maxHeartbeats 1000000 in
theorem passes_C (a b : Option Addr) (ca cb : Nat) (ps : List L) (t : T) (w : World) (hp : LinesAt w a ps) (hs : IntsAt w b t.inn) (hm : t.inn.length ≤ 1000) :
    Calls Tryz.prog 26 #[.slice a ps.length ca, .agg #[.slice b t.inn.length cb, .int .i64 t.out, .int .i64 t.want]] w fun e w' => e = .returned (.tuple #[.bool (passV ps t), .int .i64 (vpt ps [t])]) ∧ Below w.heap.size w w' := by
  have HI := Lib.hid (boxT_new (a := b) (n := t.inn.length) (ca := cb) (out := t.out) (want := t.want) w)
  have x0 := HI.out.c0
  have x1 := HI.out.c1
  have x2 := HI.out.c2
  have HV := Lib.hid (fun g w hp hts => validateTestsP_any a g ca 1 ps [t] w hp hts (by simp) (by simpa using hm))
  have HS := Lib.hid (hs.below HI.out.below (Nat.le_refl _))
  by_cases hz : vpt ps [t] = 0
  · have HP := Lib.hid (fun w hp hs => passes_any a b ca cb ps t w hp hs (vpt_ok hz).1 ((vts_ok (vpt_ok hz).2).2 t (by simp)))
    have HX := Lib.hid (show passV ps t = pas ps t by unfold passV; rw [if_pos hz])
    rw [HX.out, hz]
    rw [hz] at HV
    clear hz
    go_enter Tryz.func26, Tryz.ntmps26
    go_wp2_with fail
    refine (HV.out _ _ ?_ ?_).mono ?_
    · exact hp.below (HI.out.below.alloc HI.out.below.size _) (Nat.le_refl _)
    · exact tests_one (by simp) HS.out
    rintro e w1 ⟨rfl, hB⟩
    have HI1 := Lib.hid ((HI.out.low ((Below.refl _ _).alloc (Nat.le_refl _) _)).low hB)
    clear hB x0 x1 x2
    have x0 := HI1.out.c0
    have x1 := HI1.out.c1
    have x2 := HI1.out.c2
    go_wp2_with fail
    refine (HP.out _ (hp.below HI1.out.below (Nat.le_refl _)) (hs.below HI1.out.below (Nat.le_refl _))).mono ?_
    rintro e w2 ⟨rfl, hB⟩
    go_wp2_with fail
    go_ret2
    exact ⟨rfl, (HI1.out.low hB).below⟩
  · have HX := Lib.hid (show passV ps t = false by unfold passV; rw [if_neg hz])
    rw [HX.out]
    generalize vpt ps [t] = c at HV hz
    have hz1 : (c != 0) = true := by simpa using hz
    have hz2 : (c == 0) = false := by simpa using hz
    clear hz
    go_enter Tryz.func26, Tryz.ntmps26
    go_wp2_with fail
    refine (HV.out _ _ ?_ ?_).mono ?_
    · exact hp.below (HI.out.below.alloc HI.out.below.size _) (Nat.le_refl _)
    · exact tests_one (by simp) HS.out
    rintro e w1 ⟨rfl, hB⟩
    have HI1 := Lib.hid ((HI.out.low ((Below.refl _ _).alloc (Nat.le_refl _) _)).low hB)
    go_wp2_with fail
    go_ret2
    exact ⟨rfl, HI1.out.below⟩

set_option maxRecDepth 100000 in
set_option maxHeartbeats 2000000 in
theorem rPasses_any (a b : Option Addr) (ca cb : Nat) (ps : List L) (t : T) (w : World) (hp : LinesAt w a ps) (hs : IntsAt w b t.inn) :
    Calls Tryz.prog 106 #[.slice a ps.length ca, .agg #[.slice b t.inn.length cb, .int .i64 t.out, .int .i64 t.want]] w fun e w' => e = .returned (.tuple #[.bool (passV ps t), .int .i64 (vpt ps [t])]) ∧ Below w.heap.size w w' := by
  have HI := Lib.hid (boxT_new (a := b) (n := t.inn.length) (ca := cb) (out := t.out) (want := t.want) w)
  have x0 := HI.out.c0
  have x1 := HI.out.c1
  have x2 := HI.out.c2
  have HV := Lib.hid (fun g w hp hts => rTested_any a g ca 1 ps [t] w hp hts)
  have HS := Lib.hid (hs.below HI.out.below (Nat.le_refl _))
  by_cases hz : vpt ps [t] = 0
  · obtain ⟨h1, h2, h3⟩ := isT_ok ((vts_ok (vpt_ok hz).2).2 t (by simp))
    have hzr : vr ps t.inn = 0 := by unfold vr fe; rw [if_pos (vpt_ok hz).1]; exact h1
    have HE := Lib.hid (fun w hp hs => rMade_any a b ca cb ps t.inn t.out w hp hs hzr h2)
    have HX := Lib.hid (show passV ps t = (endP ps t.inn t.out == t.want) by unfold passV; rw [if_pos hz]; rfl)
    rw [HX.out, hz]
    rw [hz] at HV
    obtain ⟨inn, out, want⟩ := t
    simp only at *
    generalize endP ps inn out = V at HE
    clear hz h1 h2 h3 hzr
    go_enter Tryz.func106, Tryz.ntmps106
    go_wp2_with fail
    refine (HV.out _ _ ?_ ?_).mono ?_
    · exact hp.below (HI.out.below.alloc HI.out.below.size _) (Nat.le_refl _)
    · exact tests_one (t := ⟨inn, out, want⟩) (by simp) HS.out
    rintro e w1 ⟨rfl, hB⟩
    have HI1 := Lib.hid ((HI.out.low ((Below.refl _ _).alloc (Nat.le_refl _) _)).low hB)
    have hlx := hp_lt HI1.out.bl
    clear hB x0 x1 x2
    have x0 := HI1.out.c0
    have x1 := HI1.out.c1
    have x2 := HI1.out.c2
    go_wp2_with fail
    go_region_held3 (fun w' => w'.cell? ⟨w.heap.size, 0, none⟩ = some (.slice b inn.length cb) ∧ w'.cell? ⟨w.heap.size, 1, none⟩ = some (.int .i64 out) ∧ w'.cell? ⟨w.heap.size, 2, none⟩ = some (.int .i64 want)) (first | exact ⟨x0, x1, x2⟩ | exact ⟨(hBa.cell (p := ⟨w.heap.size, _, none⟩) hlx).trans x0, (hBa.cell (p := ⟨w.heap.size, _, none⟩) hlx).trans x1, (hBa.cell (p := ⟨w.heap.size, _, none⟩) hlx).trans x2⟩ | go_keep) ((go_at_call 131; refine (HE.out _ ?_ ?_).mono ?_; exact (hp.below HI1.out.drew.below (Nat.le_refl _)); exact (hs.below HI1.out.drew.below (Nat.le_refl _)); rintro e wa ⟨rfl, hBa⟩))
    all_goals go_wp2_with fail
    all_goals go_ret2
    all_goals exact ⟨rfl, (HI1.out.drew.low hBa).below⟩
  · have HX := Lib.hid (show passV ps t = false by unfold passV; rw [if_neg hz])
    rw [HX.out]
    generalize vpt ps [t] = c at HV hz
    have hz1 : (c != 0) = true := by simpa using hz
    have hz2 : (c == 0) = false := by simpa using hz
    clear hz
    go_enter Tryz.func106, Tryz.ntmps106
    go_wp2_with fail
    refine (HV.out _ _ ?_ ?_).mono ?_
    · exact hp.below (HI.out.below.alloc HI.out.below.size _) (Nat.le_refl _)
    · exact tests_one (by simp) HS.out
    rintro e w1 ⟨rfl, hB⟩
    have HI1 := Lib.hid ((HI.out.low ((Below.refl _ _).alloc (Nat.le_refl _) _)).low hB)
    go_wp2_with fail
    go_ret2
    exact ⟨rfl, HI1.out.below⟩

end Go.Proofs.YtikblaebfpdngaaGreat
