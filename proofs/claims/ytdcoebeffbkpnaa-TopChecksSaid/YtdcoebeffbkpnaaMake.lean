/- Make of check and of the document's answers; equal tests: contracts. -/
import Derived.Test.YtdcoebeffbkpnaaChkP
set_option linter.unusedVariables false
set_option linter.unusedSimpArgs false
namespace Go.Proofs.Ytdcoebeffbkpnaa
open Go.RowKit Tinker

theorem results_cell_row_tmp {fn : Func} {p u : Tmp} {ty : TypeId} (h : fn.results = #[.cell p ty, .tmp u]) {P : Program} (tmps : Array Value) (w : World) (g : Nat) (t : TypeId) (cs : Array Value) (fr : Nat × Nat) {fs : Array Field}
    (hp : tmps.getD p undef = .pointer (some ⟨g, 0, none⟩)) (hg : w.heap[g]? = some (.cells cs t fr))
    (hu : P.underlying ty = some (.struct fs)) (hi : (P.info? ty).map (·.size) = some cs.size) {v : Value} (hv : tmps.getD u undef = v) :
    (results fn tmps).run P w = .ok (.tuple #[.agg cs, v]) w := by
  subst hv
  have hp' : tmps[p]?.getD undef = .pointer (some ⟨g, 0, none⟩) := by simpa using hp
  simp [results, h, hp', asAddr, run_loadVar_row w g t ty cs fr _ hg hu rfl hi]

theorem own_put_other {w : World} {base n size : Nat} {e : TypeId} {v : Value} {xs : List Value} (h : w.ownsRow base e size v n xs) {g : Nat} (hg : g < base) (j : Nat) (u : Value) : (w.setCell ⟨g, j, none⟩ u).ownsRow base e size v n xs := by
  refine ⟨h.1, ?_⟩
  rcases h.2 with hn | ⟨b, cap, cur, hv, hb, hx, rest⟩
  · exact .inl hn
  · exact .inr ⟨b, cap, cur, hv, hb, hp_set hx (by show b ≠ g; omega) _, rest⟩

/-- The code that Make answers, and the test. -/
def mkC (ps : List L) (s : List Int) (out : Int) : Int := fe (vr ps s) (if isReg out then 0 else 1)
def mkT (ps : List L) (s : List Int) (out : Int) : T := if mkC ps s out = 0 then ⟨s, out, endP ps s out⟩ else ⟨[], 0, 0⟩
theorem mkC_ok {ps : List L} {s : List Int} {out : Int} (h : mkC ps s out = 0) : vr ps s = 0 ∧ isReg out = true := by
  unfold mkC fe at h
  split at h
  · refine ⟨by assumption, ?_⟩
    cases ho : isReg out
    · rw [ho] at h; simp at h
    · rfl
  · exact absurd h (by assumption)
theorem endP_in {ps : List L} {s : List Int} {out : Int} (h : vr ps s = 0) (ho : isReg out = true) : btw (endP ps s out) (-999) 999 = true := by
  have hok := runE_ok h
  obtain ⟨r0, r3⟩ := isReg_iff.1 ho
  obtain ⟨x, hx⟩ := get_of_lt (show out.toNat < (runE ps s).length by rw [hok.1]; omega)
  unfold endP
  rw [getD_of_get hx]
  have := hok.2 x (mem_of_get hx)
  simp [btw]; omega
theorem mkT_pass {ps : List L} {s : List Int} {out : Int} (h : mkC ps s out = 0) : vpt ps [mkT ps s out] = 0 ∧ passV ps (mkT ps s out) = true := by
  obtain ⟨h1, h2⟩ := mkC_ok h
  have h3 := vr_ok h1
  have e : mkT ps s out = ⟨s, out, endP ps s out⟩ := by unfold mkT; rw [if_pos h]
  have hz : vpt ps [mkT ps s out] = 0 := by
    rw [e]
    unfold vpt fe
    rw [if_pos h3.1]
    unfold vts
    rw [if_pos (by simp)]
    have : isT ⟨s, out, endP ps s out⟩ = true := by
      unfold isT
      simp only
      rw [h3.2, h2, endP_in h1 h2]; rfl
    simp [this]
  refine ⟨hz, ?_⟩
  unfold passV
  rw [if_pos hz, e]
  unfold pas
  simp

/-- A new test, and a code. -/
def GivesTE (t : T) (c : Int) (w : World) (e : Ending) (w' : World) : Prop :=
  ∃ a k, e = .returned (.tuple #[.agg #[.slice a t.inn.length k, .int .i64 t.out, .int .i64 t.want], .int .i64 c]) ∧ w'.ownsRow w.heap.size 3 1 (.slice a t.inn.length k) t.inn.length (t.inn.map (Value.int .i64)) ∧ Below w.heap.size w w'
theorem info_test : (Try.prog.info? 49).map (·.size) = some 3 := by kernel_rfl
theorem own_of_mono {w : World} {base base' n size : Nat} {e : TypeId} {v : Value} {xs : List Value} (h : w.ownsRow base e size v n xs) (hb : base' ≤ base) : w.ownsRow base' e size v n xs := own_mono h hb


set_option maxRecDepth 100000 in
set_option maxHeartbeats 2000000 in
theorem make_any (a b : Option Addr) (ca cb : Nat) (ps : List L) (s : List Int) (out : Int) (w : World) (hp : LinesAt w a ps) (hs : IntsAt w b s) (hm : s.length ≤ 1000) :
    Calls Try.prog 18 #[.slice a ps.length ca, .slice b s.length cb, .int .i64 out] w (GivesTE (mkT ps s out) (mkC ps s out) w) := by
  have HV := Lib.hid (fun w hp => validate_any a ca ps w hp)
  have HS := Lib.hid (fun w hs => validateState_any b cb s w hs (by omega))
  have HI := Lib.hid (boxT_new (a := none) (n := 0) (ca := 0) (out := 0) (want := 0) w)
  have HIR := Lib.hid (fun w => kIsRegister_any out w)
  have HFE := Lib.hid (show fe (vp ps) (vs s) = vr ps s from rfl)
  have HSI := Lib.hid hs
  have HC := Lib.hid (fun (hz : vr ps s = 0) (w : World) (hs : IntsAt w b s) => show Calls Try.prog 47 #[.slice b s.length cb] w (GivesInts s w) by
    have h4 := (vs_ok (vr_ok hz).2).1
    obtain ⟨bb, bo, rfl, hlb, hcells⟩ := hs.resolve_left (by rintro rfl; simp at h4)
    exact cloneInts_any bb bo s.length cb s w rfl (by omega) hm hcells hlb)
  have HE := Lib.hid (fun (hz : vr ps s = 0) (ho : isReg out = true) w hp hs => end_any a b ca cb ps s out w hp hs hz ho)
  have T0 := Lib.hid (show vr ps s ≠ 0 → mkC ps s out = vr ps s ∧ mkT ps s out = ⟨[], 0, 0⟩ from fun h => by
    have e : mkC ps s out = vr ps s := by unfold mkC fe; rw [if_neg h]
    exact ⟨e, by unfold mkT; rw [e, if_neg h]⟩)
  have T1 := Lib.hid (show vr ps s = 0 → isReg out = false → mkC ps s out = 1 ∧ mkT ps s out = ⟨[], 0, 0⟩ from fun h h2 => by
    have e : mkC ps s out = 1 := by unfold mkC fe; rw [if_pos h, h2]; rfl
    exact ⟨e, by unfold mkT; rw [e]; rfl⟩)
  have T2 := Lib.hid (show vr ps s = 0 → isReg out = true → mkC ps s out = 0 ∧ mkT ps s out = ⟨s, out, endP ps s out⟩ from fun h h2 => by
    have e : mkC ps s out = 0 := by unfold mkC fe; rw [if_pos h, h2]; rfl
    exact ⟨e, by unfold mkT; rw [e]; rfl⟩)
  generalize vp ps = c1 at HV HFE
  generalize vs s = c2 at HS HFE
  generalize endP ps s out = V at HE T2
  generalize mkT ps s out = X at T0 T1 T2 ⊢
  generalize mkC ps s out = C at T0 T1 T2 ⊢
  generalize vr ps s = r at HFE HC HE T0 T1 T2
  generalize isReg out = io at HIR HE T1 T2
  clear hs
  by_cases hz : r = 0
  · cases io
    · obtain ⟨rfl, rfl⟩ := T1.out hz rfl
      subst hz
      clear T0 T1 T2 HC HE
      go_enter Try.func18, Try.ntmps18
      go_wp2_with fail
      refine (HV.out _ (hp.below HI.out.below (Nat.le_refl _))).mono ?_
      rintro e w1 ⟨rfl, hB⟩
      have HI1 := Lib.hid (HI.out.low hB)
      clear hB
      go_wp2_with fail
      refine (HS.out _ (HSI.out.below HI1.out.below (Nat.le_refl _))).mono ?_
      rintro e w2 ⟨rfl, rfl⟩
      go_wp2_with fail
      refine (firstError_two _ _ _ _).mono ?_
      rintro e w3 ⟨rfl, rfl⟩
      rw [HFE.out]
      have HI2 := Lib.hid (HI1.out.low ((Below.refl _ _).alloc (Nat.le_refl _) (.cells #[.int .i64 c1, .int .i64 c2] 26)))
      have y0 := HI2.out.c0
      have y1 := HI2.out.c1
      have y2 := HI2.out.c2
      have f0 := hp_free HI2.out.bl 0
      have f1 := hp_free HI2.out.bl 1
      have f2 := hp_free HI2.out.bl 2
      go_wp2_with fail
      refine (HIR.out _).mono ?_
      rintro e w4 ⟨rfl, rfl⟩
      go_wp2_with fail
      refine bodyPost_ret (v := .tuple #[.agg #[.slice none 0 0, .int .i64 0, .int .i64 0], .int .i64 1]) ?_ rfl ⟨none, 0, rfl, World.ownsRow_nil _ _ _ _, ?_⟩
      · exact results_cell_row_tmp (p := 6) (ty := 49) rfl _ _ w.heap.size 49 _ (0, 0) (by rfl) (hp_put (hp_put (hp_put HI2.out.bl 0 _) 1 _) 2 _) Try.underlying49 (by kernel_rfl) rfl
      · exact ((HI2.out.below.setCell (p := ⟨w.heap.size, _, none⟩) (Nat.le_refl _) _).setCell (p := ⟨w.heap.size, _, none⟩) (Nat.le_refl _) _).setCell (p := ⟨w.heap.size, _, none⟩) (Nat.le_refl _) _
    · obtain ⟨rfl, rfl⟩ := T2.out hz rfl
      have HC2 := Lib.hid (HC.out hz)
      have HE2 := Lib.hid (HE.out hz rfl)
      subst hz
      show Calls Try.prog 18 #[.slice a ps.length ca, .slice b s.length cb, .int .i64 out] w (fun e w' => ∃ a k, e = .returned (.tuple #[.agg #[.slice a s.length k, .int .i64 out, .int .i64 V], .int .i64 0]) ∧ w'.ownsRow w.heap.size 3 1 (.slice a s.length k) s.length (s.map (Value.int .i64)) ∧ Below w.heap.size w w')
      clear T0 T1 T2 HC HE
      go_enter Try.func18, Try.ntmps18
      go_wp2_with fail
      refine (HV.out _ (hp.below HI.out.below (Nat.le_refl _))).mono ?_
      rintro e w1 ⟨rfl, hB⟩
      have HI1 := Lib.hid (HI.out.low hB)
      clear hB
      go_wp2_with fail
      refine (HS.out _ (HSI.out.below HI1.out.below (Nat.le_refl _))).mono ?_
      rintro e w2 ⟨rfl, rfl⟩
      go_wp2_with fail
      refine (firstError_two _ _ _ _).mono ?_
      rintro e w3 ⟨rfl, rfl⟩
      rw [HFE.out]
      have HI2 := Lib.hid (HI1.out.low ((Below.refl _ _).alloc (Nat.le_refl _) (.cells #[.int .i64 c1, .int .i64 c2] 26)))
      go_wp2_with fail
      refine (HIR.out _).mono ?_
      rintro e w4 ⟨rfl, rfl⟩
      go_wp2_with fail
      refine (HC2.out _ (HSI.out.below HI2.out.below (Nat.le_refl _))).mono ?_
      intro e w5 hG
      obtain ⟨a5, k5, rfl, ho, hB5⟩ := hG
      have hx := hp_lt HI2.out.bl
      have HI5 := Lib.hid (HI2.out.low hB5)
      have HO := Lib.hid ho
      clear ho hB5
      go_wp2_with fail
      refine (HE2.out _ (hp.below HI5.out.below (Nat.le_refl _)) (HSI.out.below HI5.out.below (Nat.le_refl _))).mono ?_
      rintro e w6 ⟨rfl, hB6⟩
      have HO6 := Lib.hid (own_below HO.out hB6 (Nat.le_refl _))
      have HI6 := Lib.hid (HI5.out.low hB6)
      have y0 := HI6.out.c0
      have y1 := HI6.out.c1
      have y2 := HI6.out.c2
      have f0 := hp_free HI6.out.bl 0
      have f1 := hp_free HI6.out.bl 1
      have f2 := hp_free HI6.out.bl 2
      clear hB6
      go_wp2_with fail
      refine bodyPost_ret (v := .tuple #[.agg #[.slice a5 s.length k5, .int .i64 out, .int .i64 V], .int .i64 0]) ?_ rfl ⟨a5, k5, rfl, ?_, ?_⟩
      · exact results_cell_row_tmp (p := 6) (ty := 49) rfl _ _ w.heap.size 49 _ (0, 0) (by rfl) (hp_put (hp_put (hp_put HI6.out.bl 0 _) 1 _) 2 _) Try.underlying49 (by kernel_rfl) rfl
      · exact own_of_mono (own_put_other (own_put_other (own_put_other HO6.out (g := w.heap.size) hx _ _) (g := w.heap.size) hx _ _) (g := w.heap.size) hx _ _) (Nat.le_of_lt hx)
      · exact ((HI6.out.below.setCell (p := ⟨w.heap.size, _, none⟩) (Nat.le_refl _) _).setCell (p := ⟨w.heap.size, _, none⟩) (Nat.le_refl _) _).setCell (p := ⟨w.heap.size, _, none⟩) (Nat.le_refl _) _
  · obtain ⟨rfl, rfl⟩ := T0.out hz
    have hz1 : (C != 0) = true := by simpa using hz
    have hz2 : (C == 0) = false := by simpa using hz
    clear T0 T1 T2 HC HE hz HIR
    go_enter Try.func18, Try.ntmps18
    go_wp2_with fail
    refine (HV.out _ (hp.below HI.out.below (Nat.le_refl _))).mono ?_
    rintro e w1 ⟨rfl, hB⟩
    have HI1 := Lib.hid (HI.out.low hB)
    clear hB
    go_wp2_with fail
    refine (HS.out _ (HSI.out.below HI1.out.below (Nat.le_refl _))).mono ?_
    rintro e w2 ⟨rfl, rfl⟩
    go_wp2_with fail
    refine (firstError_two _ _ _ _).mono ?_
    rintro e w3 ⟨rfl, rfl⟩
    rw [HFE.out]
    have HI2 := Lib.hid (HI1.out.low ((Below.refl _ _).alloc (Nat.le_refl _) (.cells #[.int .i64 c1, .int .i64 c2] 26)))
    have y0 := HI2.out.c0
    have y1 := HI2.out.c1
    have y2 := HI2.out.c2
    have f0 := hp_free HI2.out.bl 0
    have f1 := hp_free HI2.out.bl 1
    have f2 := hp_free HI2.out.bl 2
    go_wp2_with fail
    refine bodyPost_ret (v := .tuple #[.agg #[.slice none 0 0, .int .i64 0, .int .i64 0], .int .i64 C]) ?_ rfl ⟨none, 0, rfl, World.ownsRow_nil _ _ _ _, ?_⟩
    · exact results_cell_row_tmp (p := 6) (ty := 49) rfl _ _ w.heap.size 49 _ (0, 0) (by rfl) (hp_put (hp_put (hp_put HI2.out.bl 0 _) 1 _) 2 _) Try.underlying49 (by kernel_rfl) rfl
    · exact ((HI2.out.below.setCell (p := ⟨w.heap.size, _, none⟩) (Nat.le_refl _) _).setCell (p := ⟨w.heap.size, _, none⟩) (Nat.le_refl _) _).setCell (p := ⟨w.heap.size, _, none⟩) (Nat.le_refl _) _

end Go.Proofs.Ytdcoebeffbkpnaa
