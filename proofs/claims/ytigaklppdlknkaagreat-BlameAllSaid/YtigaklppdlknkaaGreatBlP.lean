/- CheckPass of both: contracts. -/
import Derived.Test.YtigaklppdlknkaaGreatBlI
import Derived.Test.YtigaklppdlknkaaGreatChkP
set_option linter.unusedVariables false
set_option linter.unusedSimpArgs false
namespace Go.Proofs.YtigaklppdlknkaaGreat
open Go.RowKit Tinker

set_option maxRecDepth 100000 in
set_option maxHeartbeats 1000000 in
theorem rTested3_any (a g : Option Addr) (ca cap : Nat) (ps : List L) (ts : List T) (w : World) (hp : LinesAt w a ps) (hts : TestsAt w g ts) :
    Calls Tryz.prog 65 #[.slice a ps.length ca, .slice g ts.length cap] w fun e w' => e = .returned (.int .i64 (vpt ps ts)) ∧ Below w.heap.size w w' := by
  have HP := Lib.hid (rValidate_any a ca ps w hp)
  have HS := Lib.hid (fun w hs => rValidateTests_any g cap ts w hs)
  have HT := Lib.hid hts
  have HE := Lib.hid (show vpt ps ts = fe (vp ps) (vts ts) from rfl)
  rw [HE.out]
  clear hp hts HE
  by_cases hz : vp ps = 0
  · rw [hz, show fe 0 (vts ts) = vts ts by unfold fe; rfl]
    rw [hz] at HP
    clear hz
    go_enter Tryz.func65, Tryz.ntmps65
    go_wp2_with fail
    refine HP.out.mono ?_
    rintro e w1 ⟨rfl, hB⟩
    have HB := Lib.hid hB
    clear hB
    go_wp2_with fail
    refine (HS.out _ (HT.out.below HB.out (Nat.le_refl _))).mono ?_
    rintro e w2 ⟨rfl, hB2⟩
    go_wp2_with fail
    go_ret
    exact ⟨rfl, HB.out.trans (hB2.mono HB.out.size)⟩
  · rw [show fe (vp ps) (vts ts) = vp ps by unfold fe; rw [if_neg hz]]
    generalize vp ps = c at HP hz
    have hz1 : (c != 0) = true := by simpa using hz
    have hz2 : (c == 0) = false := by simpa using hz
    clear hz
    go_enter Tryz.func65, Tryz.ntmps65
    go_wp2_with fail
    refine HP.out.mono ?_
    rintro e w1 ⟨rfl, hB⟩
    go_wp2_with fail
    go_ret
    exact ⟨rfl, hB⟩

/-- What CheckPass answers. -/
def cpC (ps : List L) (t : T) (ls vs : List Int) : Int :=
  if vpt ps [t] = 0 then (if fC ps t.inn ls vs = 0 then (if ((fA ps t.inn ls vs).getD t.out.toNat 0 != t.want) = true then 7 else 0) else fC ps t.inn ls vs) else vpt ps [t]

set_option maxRecDepth 100000 in
set_option maxHeartbeats 2000000 in
theorem CheckPass_any (a b c d : Option Addr) (ca cb cc cd : Nat) (ps : List L) (t : T) (ls vs : List Int) (w : World) (hp : LinesAt w a ps) (hs : IntsAt w b t.inn) (hl : IntsAt w c ls) (hv : IntsAt w d vs) (hm0 : t.inn.length ≤ 1000) (hm : ls.length ≤ 1000) (hm2 : vs.length ≤ 1000) :
    Calls Tryz.prog 46 #[.slice a ps.length ca, .agg #[.slice b t.inn.length cb, .int .i64 t.out, .int .i64 t.want], .slice c ls.length cc, .slice d vs.length cd] w fun e w' => e = .returned (.int .i64 (cpC ps t ls vs)) ∧ Below w.heap.size w w' := by
  have HI := Lib.hid (boxT_new (a := b) (n := t.inn.length) (ca := cb) (out := t.out) (want := t.want) w)
  have x0 := HI.out.c0
  have x1 := HI.out.c1
  have x2 := HI.out.c2
  have HV := Lib.hid (fun g w hp hts => validateTestsB_any a g ca 1 ps [t] w hp hts (by simp) (by simpa using hm0))
  have HFC := Lib.hid (fun w hp hs hl hv => force_any a b c d ca cb cc cd ps t.inn ls vs w hp hs hl hv hm0 hm hm2)
  have HP := Lib.hid hp
  have HL := Lib.hid hl
  have HVS := Lib.hid hv
  have HS0 := Lib.hid hs
  have HS := Lib.hid (hs.below HI.out.below (Nat.le_refl _))
  have HCP := Lib.hid (show cpC ps t ls vs = if vpt ps [t] = 0 then (if fC ps t.inn ls vs = 0 then (if ((fA ps t.inn ls vs).getD t.out.toNat 0 != t.want) = true then 7 else 0) else fC ps t.inn ls vs) else vpt ps [t] from rfl)
  rw [HCP.out]
  clear HCP hp hs hl hv
  by_cases hz : vpt ps [t] = 0
  · have hT := (vts_ok (vpt_ok hz).2).2 t (by simp)
    have hr := btw_true.1 (show btw t.out 0 3 = true from (isT_ok hT).2.1)
    have HAL := Lib.hid (fun h => (fA_ok (p := ps) (s := t.inn) (ls := ls) (vs := vs) h).1)
    rw [if_pos hz]
    rw [hz] at HV
    generalize fC ps t.inn ls vs = co at HFC HAL ⊢
    generalize fA ps t.inn ls vs = X at HFC HAL ⊢
    clear hz hT
    by_cases hc : co = 0
    · subst hc
      rw [if_pos rfl]
      have hXl := HAL.out rfl
      obtain ⟨x, hx⟩ := get_of_lt (show t.out.toNat < X.length by omega)
      rw [getD_of_get hx]
      have HXG := Lib.hid hx
      obtain ⟨inn, out, want⟩ := t
      simp only at *
      obtain ⟨o, rfl⟩ : ∃ o : Nat, out = o := ⟨out.toNat, by omega⟩
      have HN := Lib.hid (show ((o : Int)).toNat = o by omega)
      have ho3 : o < X.length := by omega
      generalize hR : (if (x != want) = true then (7 : Int) else 0) = R
      have HR := Lib.hid hR
      clear hx hXl hR
      go_enter Tryz.func46, Tryz.ntmps46
      go_wp2_with fail
      refine (HV.out _ _ ?_ ?_).mono ?_
      · exact HP.out.below (HI.out.below.alloc HI.out.below.size _) (Nat.le_refl _)
      · exact tests_one (by simp) HS.out
      rintro e w1 ⟨rfl, hB⟩
      have HI1 := Lib.hid ((HI.out.low ((Below.refl _ _).alloc (Nat.le_refl _) _)).low hB)
      clear hB x0 x1 x2 HI
      have x0 := HI1.out.c0
      have x1 := HI1.out.c1
      have x2 := HI1.out.c2
      go_wp2_with fail
      refine (HFC.out _ (HP.out.below HI1.out.below (Nat.le_refl _)) (HS0.out.below HI1.out.below (Nat.le_refl _)) (HL.out.below HI1.out.below (Nat.le_refl _)) (HVS.out.below HI1.out.below (Nat.le_refl _))).mono ?_
      rintro e w2 ⟨a1, c1, rfl, ho, hB⟩
      have HI2 := Lib.hid (HI1.out.low hB)
      obtain ⟨xb, xo, xv, rfl, hxb, hxv, y0⟩ := (ints_of_own ho).1.at_ ho3
      have hxx : x = xv := by
        have h1 := HXG.out
        rw [HN.out, hxv] at h1
        injection h1 with h1
        exact h1.symm
      have HR2 := Lib.hid (show (if (xv != want) = true then (7 : Int) else 0) = R by rw [← hxx]; exact HR.out)
      clear ho hxv hB HI1 x0 x1 x2 hxx
      have x0 := HI2.out.c0
      have x1 := HI2.out.c1
      have x2 := HI2.out.c2
      cases hb : (xv != want)
      · have HBB := Lib.hid hb
        go_wp2_with fail
        go_quiet (fail)
        go_wp2_with fail
        go_ret
        exact ⟨ret_int (by rw [← HR2.out, HBB.out]; rfl), HI2.out.below.trans (Below.mono ⟨rfl, rfl, rfl, Nat.le_refl _, fun _ _ => rfl⟩ HI2.out.below.size)⟩
      · have HBB := Lib.hid hb
        go_wp2_with fail
        go_quiet (fail)
        go_wp2_with fail
        go_ret
        exact ⟨ret_int (by rw [← HR2.out, HBB.out]; rfl), HI2.out.below.trans (Below.mono ⟨rfl, rfl, rfl, Nat.le_refl _, fun _ _ => rfl⟩ HI2.out.below.size)⟩
    · rw [if_neg hc]
      have hz1 : (co != 0) = true := by simpa using hc
      have hz2 : (co == 0) = false := by simpa using hc
      clear hc HAL hr
      go_enter Tryz.func46, Tryz.ntmps46
      go_wp2_with fail
      refine (HV.out _ _ ?_ ?_).mono ?_
      · exact HP.out.below (HI.out.below.alloc HI.out.below.size _) (Nat.le_refl _)
      · exact tests_one (by simp) HS.out
      rintro e w1 ⟨rfl, hB⟩
      have HI1 := Lib.hid ((HI.out.low ((Below.refl _ _).alloc (Nat.le_refl _) _)).low hB)
      clear hB x0 x1 x2 HI
      have x0 := HI1.out.c0
      have x1 := HI1.out.c1
      have x2 := HI1.out.c2
      go_wp2_with fail
      refine (HFC.out _ (HP.out.below HI1.out.below (Nat.le_refl _)) (HS0.out.below HI1.out.below (Nat.le_refl _)) (HL.out.below HI1.out.below (Nat.le_refl _)) (HVS.out.below HI1.out.below (Nat.le_refl _))).mono ?_
      rintro e w2 ⟨a1, c1, rfl, ho, hB⟩
      go_wp2_with fail
      go_ret
      exact ⟨rfl, (HI1.out.low hB).below⟩
  · rw [if_neg hz]
    generalize vpt ps [t] = co at HV hz
    have hz1 : (co != 0) = true := by simpa using hz
    have hz2 : (co == 0) = false := by simpa using hz
    clear hz
    go_enter Tryz.func46, Tryz.ntmps46
    go_wp2_with fail
    refine (HV.out _ _ ?_ ?_).mono ?_
    · exact HP.out.below (HI.out.below.alloc HI.out.below.size _) (Nat.le_refl _)
    · exact tests_one (by simp) HS.out
    rintro e w1 ⟨rfl, hB⟩
    go_wp2_with fail
    go_ret
    exact ⟨rfl, ((HI.out.low ((Below.refl _ _).alloc (Nat.le_refl _) _)).low hB).below⟩

end Go.Proofs.YtigaklppdlknkaaGreat
