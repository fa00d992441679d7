/- Halves of span: contract. -/
import Derived.Test.YtmpgaccpdglhkaaSpJ
import Derived.Test.YtmpgaccpdglhkaaSpE
set_option linter.unusedVariables false
set_option linter.unusedSimpArgs false
namespace Go.Proofs.Ytmpgaccpdglhkaa
open Go.RowKit Tinker

theorem results_cell_cell {fn : Func} {p q : Tmp} {ty : TypeId} (h : fn.results = #[.cell p ty, .cell q ty]) {P : Program} (tmps : Array Value) (w : World) (g g' : Nat) (t : TypeId) (cs cs' : Array Value) (fr fr' : Nat × Nat) {fs : Array Field}
    (hp : tmps.getD p undef = .pointer (some ⟨g, 0, none⟩)) (hg : w.heap[g]? = some (.cells cs t fr)) (hp2 : tmps.getD q undef = .pointer (some ⟨g', 0, none⟩)) (hg2 : w.heap[g']? = some (.cells cs' t fr'))
    (hu : P.underlying ty = some (.struct fs)) (hi : (P.info? ty).map (·.size) = some cs.size) (hi2 : (P.info? ty).map (·.size) = some cs'.size) :
    (results fn tmps).run P w = .ok (.tuple #[.agg cs, .agg cs']) w := by
  have hp' : tmps[p]?.getD undef = .pointer (some ⟨g, 0, none⟩) := by simpa using hp
  have hp2' : tmps[q]?.getD undef = .pointer (some ⟨g', 0, none⟩) := by simpa using hp2
  simp [results, h, hp', hp2', asAddr, run_loadVar_row w g t ty cs fr _ hg hu rfl hi, run_loadVar_row w g' t ty cs' fr' _ hg2 hu rfl hi2]

set_option maxRecDepth 100000 in
set_option maxHeartbeats 1000000 in
theorem ivHalves_any (x : Rg) (w : World) (h : okG x = true) : Calls Try.prog 80 #[gv x] w fun e w' => e = .returned (.tuple #[gv ⟨x.lo, (x.lo + x.hi) / 2⟩, gv ⟨(x.lo + x.hi) / 2 + 1, x.hi⟩]) ∧ Below w.heap.size w w' := by
  unfold gv
  obtain ⟨⟨a1, a2⟩, ⟨a3, a4⟩, a5⟩ := okG_iff.1 h
  clear h
  have hb : (x.lo + x.hi) / 2 ≤ 999 := by omega
  have hb2 : -999 ≤ (x.lo + x.hi) / 2 := by omega
  go_enter Try.func80, Try.ntmps80
  go_wp2_with fail
  go_region
  all_goals go_wp2_with fail
  all_goals exact bodyPost_ret (results_cell_cell (p := 2) (q := 3) (ty := 67) rfl _ _ (w.heap.size + 1) (w.heap.size + 1 + 1) 67 _ _ (0, 0) (0, 0) (by rfl) (hp_drew (hp_alloc (hp_new (by simp)))) (by rfl) (hp_drew (hp_new (by simp))) Try.underlying67 (by kernel_rfl) (by kernel_rfl)) rfl ⟨rfl, ((((Below.refl _ _).alloc (Nat.le_refl _) _).alloc (by simp) _).alloc (by simp; omega) _).drew⟩

/-- The code of Halves, and what it answers. -/
def hvC (b : List Rg) (r : Int) : Int := if fe (vb b) (if isReg r then 0 else 1) = 0 then (if (gAt b r).hi - (gAt b r).lo = 0 then 6 else 0) else fe (vb b) (if isReg r then 0 else 1)
def hvL (b : List Rg) (r : Int) : List Rg := if hvC b r = 0 then loH b r else []
def hvH (b : List Rg) (r : Int) : List Rg := if hvC b r = 0 then hiH b r else []
/-- Two new slices of ranges, and a code. -/
def GivesRg2 (a b : List Rg) (c : Int) (w : World) (e : Ending) (w' : World) : Prop :=
  ∃ x y cx cy, e = .returned (.tuple #[.slice x a.length cx, .slice y b.length cy, .int .i64 c]) ∧ RangesAt w' x a ∧ RangesAt w' y b ∧ Below w.heap.size w w'
theorem givesRg2_nil {c : Int} {w w' : World} (hB : Below w.heap.size w w') : GivesRg2 [] [] c w (.returned (.tuple #[.slice none 0 0, .slice none 0 0, .int .i64 c])) w' := ⟨none, none, 0, 0, rfl, .inl rfl, .inl rfl, hB⟩

set_option maxRecDepth 100000 in
set_option maxHeartbeats 4000000 in
theorem sHalves_any (a : Option Addr) (ca : Nat) (b : List Rg) (r : Int) (w : World) (hb : RangesAt w a b) :
    Calls Try.prog 38 #[.slice a b.length ca, .int .i64 r] w (GivesRg2 (hvL b r) (hvH b r) (hvC b r) w) := by
  have H1 := Lib.hid (fun w h => sValidate_any a ca b w h)
  have H2 := Lib.hid (fun w => sValidateRegister_any r w)
  have HR := Lib.hid hb
  by_cases hz : fe (vb b) (if isReg r then 0 else 1) = 0
  · obtain ⟨z1, z2⟩ := fe_zero hz
    have hr : isReg r = true := by cases h : isReg r <;> simp [h] at z2 ⊢
    have hok := vb_ok z1
    have h4 := hok.l4
    obtain ⟨r0, r3⟩ := isReg_iff.1 hr
    have hgo := hok.g r0 r3
    have HBO := Lib.hid (fun w hb => boxOf_any a ca b w hb h4)
    rw [z1, h4] at H1
    rw [z2] at H2
    have HWD := Lib.hid (fun w => ivWidth_any (gAt b r) w hgo)
    by_cases he : (gAt b r).hi - (gAt b r).lo = 0
    · have hc : hvC b r = 6 := by unfold hvC; rw [if_pos hz, if_pos he]
      rw [show hvL b r = [] by unfold hvL; rw [hc]; rfl, show hvH b r = [] by unfold hvH; rw [hc]; rfl, hc, h4]
      rw [he] at HWD
      obtain ⟨x0, x1, x2, x3, rfl⟩ := rg_list4 h4
      obtain ⟨ga, gb⟩ := gcell (x0 := x0) (x1 := x1) (x2 := x2) (x3 := x3) r0 r3
      rw [bx_4] at HBO
      unfold gv at HWD
      generalize gAt [x0, x1, x2, x3] r = y at *
      have t1 : r < 4 := by omega
      clear hz z1 z2 hr hok h4 hgo he hc hb
      go_enter Try.func38, Try.ntmps38
      go_wp2_with fail
      refine (H1.out _ HR.out).mono ?_
      rintro e w1 ⟨rfl, hB⟩
      have HB0 := Lib.hid hB
      clear hB
      go_wp2_with fail
      refine (H2.out _).mono ?_
      rintro e w0 ⟨rfl, rfl⟩
      go_wp2_with fail
      refine (firstError_two _ _ _ _).mono ?_
      rintro e w9 ⟨rfl, hw9⟩
      have HB9 := Lib.hid (show Below w.heap.size w w9 by rw [← hw9]; exact HB0.out.alloc HB0.out.size _)
      clear hw9
      have hz0 : fe 0 0 = 0 := rfl
      rw [hz0]
      go_wp2_with fail
      refine (HBO.out _ (HR.out.below HB9.out (Nat.le_refl _))).mono ?_
      rintro e w3 ⟨rfl, hB⟩
      have HB6 := Lib.hid (HB9.out.trans (hB.mono HB9.out.size))
      clear hB
      go_wp2_with fail
      refine (HWD.out _).mono ?_
      rintro e w4 ⟨rfl, hB⟩
      have HBA := Lib.hid ((HB6.out.alloc HB6.out.size _).trans (hB.mono (by have := HB6.out.size; simp; omega)))
      clear hB
      go_wp2_with fail
      go_ret3
      exact givesRg2_nil HBA.out
    · have hc : hvC b r = 0 := by unfold hvC; rw [if_pos hz, if_neg he]
      rw [show hvL b r = loH b r by unfold hvL; rw [hc]; rfl, show hvH b r = hiH b r by unfold hvH; rw [hc]; rfl, hc]
      have HHV := Lib.hid (fun w => ivHalves_any (gAt b r) w hgo)
      have HW1 := Lib.hid (fun w => boxWith_any b r ⟨(gAt b r).lo, ((gAt b r).lo + (gAt b r).hi) / 2⟩ w h4 r0 r3)
      have HW2 := Lib.hid (fun w => boxWith_any b r ⟨((gAt b r).lo + (gAt b r).hi) / 2 + 1, (gAt b r).hi⟩ w h4 r0 r3)
      have l1 : (loH b r).length = 4 := by unfold loH; simpa using h4
      have l2 : (hiH b r).length = 4 := by unfold hiH; simpa using h4
      have HG1 := Lib.hid (fun w => boxRanges_any (loH b r) w l1)
      have HG2 := Lib.hid (fun w => boxRanges_any (hiH b r) w l2)
      replace HW1 : Hid (∀ w, Calls _ _ _ w fun e w' => e = .returned (bx (loH b r)) ∧ _) := HW1
      replace HW2 : Hid (∀ w, Calls _ _ _ w fun e w' => e = .returned (bx (hiH b r)) ∧ _) := HW2
      have HL1 := Lib.hid l1
      have HL2 := Lib.hid l2
      have he1 : ((gAt b r).hi - (gAt b r).lo == 0) = false := by simpa using he
      generalize loH b r = bl at *
      generalize hiH b r = bh at *
      generalize ((gAt b r).lo + (gAt b r).hi) / 2 = m at *
      rw [h4]
      obtain ⟨x0, x1, x2, x3, rfl⟩ := rg_list4 h4
      obtain ⟨ga, gb⟩ := gcell (x0 := x0) (x1 := x1) (x2 := x2) (x3 := x3) r0 r3
      rw [bx_4] at HBO HW1 HW2
      unfold gv at HWD HHV HW1 HW2
      generalize gAt [x0, x1, x2, x3] r = y at *
      generalize y.hi - y.lo = D at *
      have t1 : r < 4 := by omega
      clear hz z1 z2 hr hok h4 hgo he hc hb l1 l2
      go_enter Try.func38, Try.ntmps38
      go_wp2_with fail
      refine (H1.out _ HR.out).mono ?_
      rintro e w1 ⟨rfl, hB⟩
      have HB0 := Lib.hid hB
      clear hB
      go_wp2_with fail
      refine (H2.out _).mono ?_
      rintro e w0 ⟨rfl, rfl⟩
      go_wp2_with fail
      refine (firstError_two _ _ _ _).mono ?_
      rintro e w9 ⟨rfl, hw9⟩
      have HB9 := Lib.hid (show Below w.heap.size w w9 by rw [← hw9]; exact HB0.out.alloc HB0.out.size _)
      clear hw9
      have hz0 : fe 0 0 = 0 := rfl
      rw [hz0]
      go_wp2_with fail
      refine (HBO.out _ (HR.out.below HB9.out (Nat.le_refl _))).mono ?_
      rintro e w3 ⟨rfl, hB⟩
      have HB6 := Lib.hid (HB9.out.trans (hB.mono HB9.out.size))
      clear hB
      go_wp2_with fail
      refine (HWD.out _).mono ?_
      rintro e w4 ⟨rfl, hB⟩
      have HT := Lib.hid (hp_below (hp_new (w := w3) (o := .cells #[.int .i64 x0.lo, .int .i64 x0.hi, .int .i64 x1.lo, .int .i64 x1.hi, .int .i64 x2.lo, .int .i64 x2.hi, .int .i64 x3.lo, .int .i64 x3.hi] 69 (0, 0)) rfl) hB (by simp))
      have HBA := Lib.hid ((HB6.out.alloc HB6.out.size _).trans (hB.mono (by have := HB6.out.size; simp; omega)))
      clear hB
      have za := hp_cell HT.out ga
      have zb := hp_cell HT.out gb
      have HTN := Lib.hid (hp_lt HT.out)
      generalize w3.heap.size = T8 at *
      go_wp2_with fail
      refine (HHV.out _).mono ?_
      rintro e w5 ⟨rfl, hB⟩
      have HT := Lib.hid (hp_below HT.out hB HTN.out)
      have HBA := Lib.hid (HBA.out.trans (hB.mono HBA.out.size))
      have hlt := Nat.lt_of_lt_of_le HTN.out hB.size
      clear hB za zb HTN
      go_wp2_with fail
      have HT := Lib.hid (hp_alloc (o' := .cells #[.int .i64 (m + 1), .int .i64 y.hi] 67 (0, 0)) (hp_alloc (o' := .cells #[.int .i64 y.lo, .int .i64 m] 67 (0, 0)) HT.out))
      have H9 := Lib.hid (hp_alloc (o' := .cells #[.int .i64 (m + 1), .int .i64 y.hi] 67 (0, 0)) (hp_new (w := w5) (o := .cells #[.int .i64 y.lo, .int .i64 m] 67 (0, 0)) rfl))
      have H10 := Lib.hid (hp_new (i := w5.heap.size + 1) (w := w5.alloc (.cells #[.int .i64 y.lo, .int .i64 m] 67 (0, 0))) (o := .cells #[.int .i64 (m + 1), .int .i64 y.hi] 67 (0, 0)) (by simp))
      have HBA := Lib.hid ((HBA.out.alloc HBA.out.size (.cells #[.int .i64 y.lo, .int .i64 m] 67 (0, 0))).alloc (by have := HBA.out.size; simp; omega) (.cells #[.int .i64 (m + 1), .int .i64 y.hi] 67 (0, 0)))
      clear hlt
      generalize hW : ((w5.alloc (.cells #[.int .i64 y.lo, .int .i64 m] 67 (0, 0))).alloc (.cells #[.int .i64 (m + 1), .int .i64 y.hi] 67 (0, 0))) = W at *
      clear hW
      generalize w5.heap.size + 1 = T10 at *
      generalize w5.heap.size = T9 at *
      refine wp_region_held_drew (S := (fun W => W.heap[T8]? = some (.cells #[.int .i64 x0.lo, .int .i64 x0.hi, .int .i64 x1.lo, .int .i64 x1.hi, .int .i64 x2.lo, .int .i64 x2.hi, .int .i64 x3.lo, .int .i64 x3.hi] 69 (0, 0)) ∧ W.heap[T9]? = some (.cells #[.int .i64 y.lo, .int .i64 m] 67 (0, 0)) ∧ W.heap[T10]? = some (.cells #[.int .i64 (m + 1), .int .i64 y.hi] 67 (0, 0)))) (by kernel_rfl) ?_ (fun hHeld => ?_)
      · exact ⟨hp_drew HT.out, hp_drew H9.out, hp_drew H10.out⟩
      refine wpAnyH_take (i := 0) (oi := ?oiq1) (v := (.agg #[.int .i64 x0.lo, .int .i64 x0.hi, .int .i64 x1.lo, .int .i64 x1.hi, .int .i64 x2.lo, .int .i64 x2.hi, .int .i64 x3.lo, .int .i64 x3.hi])) ?hiq1 (by kernel_rfl) (by kernel_rfl) (by kernel_rfl) ?hqq1 ?hyq1 hHeld ?restq1
      case hiq1 => exact rfl
      case hqq1 => exact fun _ _ _ h => h
      case hyq1 =>
        refine Or.inl ⟨by rfl, ?_⟩
        intro w hSw
        have z0 : w.cell? ⟨T8, 0, none⟩ = some (.int .i64 x0.lo) := hp_cell hSw.1 (by rfl)
        have z1 : w.cell? ⟨T8, 1, none⟩ = some (.int .i64 x0.hi) := hp_cell hSw.1 (by rfl)
        have z2 : w.cell? ⟨T8, 2, none⟩ = some (.int .i64 x1.lo) := hp_cell hSw.1 (by rfl)
        have z3 : w.cell? ⟨T8, 3, none⟩ = some (.int .i64 x1.hi) := hp_cell hSw.1 (by rfl)
        have z4 : w.cell? ⟨T8, 4, none⟩ = some (.int .i64 x2.lo) := hp_cell hSw.1 (by rfl)
        have z5 : w.cell? ⟨T8, 5, none⟩ = some (.int .i64 x2.hi) := hp_cell hSw.1 (by rfl)
        have z6 : w.cell? ⟨T8, 6, none⟩ = some (.int .i64 x3.lo) := hp_cell hSw.1 (by rfl)
        have z7 : w.cell? ⟨T8, 7, none⟩ = some (.int .i64 x3.hi) := hp_cell hSw.1 (by rfl)
        go_simp
        (try with_reducible rfl)
      try simp only [Act.put, List.getElem_toArray, List.getElem_cons_succ, List.getElem_cons_zero, List.setIfInBounds_toArray, List.set_cons_zero, List.set_cons_succ]
      refine wpAnyH_take (i := 1) (oi := ?oiq2) (v := ?vq2) ?hiq2 (by kernel_rfl) (by kernel_rfl) (by kernel_rfl) ?hqq2 ?hyq2 hHeld ?restq2
      case hiq2 => exact rfl
      case hqq2 => exact fun _ _ _ h => h
      case hyq2 =>
        refine Or.inl ⟨by rfl, ?_⟩
        intro w hSw
        go_simp
        (try with_reducible rfl)
      try simp only [Act.put, List.getElem_toArray, List.getElem_cons_succ, List.getElem_cons_zero, List.setIfInBounds_toArray, List.set_cons_zero, List.set_cons_succ]
      refine wpAnyH_take (i := 2) (oi := ?oiq3) (v := (.agg #[.int .i64 y.lo, .int .i64 m])) ?hiq3 (by kernel_rfl) (by kernel_rfl) (by kernel_rfl) ?hqq3 ?hyq3 hHeld ?restq3
      case hiq3 => exact rfl
      case hqq3 => exact fun _ _ _ h => h
      case hyq3 =>
        refine Or.inl ⟨by rfl, ?_⟩
        intro w hSw
        have z0 : w.cell? ⟨T9, 0, none⟩ = some (.int .i64 y.lo) := hp_cell hSw.2.1 (by rfl)
        have z1 : w.cell? ⟨T9, 1, none⟩ = some (.int .i64 m) := hp_cell hSw.2.1 (by rfl)
        go_simp
        (try with_reducible rfl)
      try simp only [Act.put, List.getElem_toArray, List.getElem_cons_succ, List.getElem_cons_zero, List.setIfInBounds_toArray, List.set_cons_zero, List.set_cons_succ]
      refine wpAnyH_take (i := 5) (oi := ?oiq4) (v := (.agg #[.int .i64 x0.lo, .int .i64 x0.hi, .int .i64 x1.lo, .int .i64 x1.hi, .int .i64 x2.lo, .int .i64 x2.hi, .int .i64 x3.lo, .int .i64 x3.hi])) ?hiq4 (by kernel_rfl) (by kernel_rfl) (by kernel_rfl) ?hqq4 ?hyq4 hHeld ?restq4
      case hiq4 => exact rfl
      case hqq4 => exact fun _ _ _ h => h
      case hyq4 =>
        refine Or.inl ⟨by rfl, ?_⟩
        intro w hSw
        have z0 : w.cell? ⟨T8, 0, none⟩ = some (.int .i64 x0.lo) := hp_cell hSw.1 (by rfl)
        have z1 : w.cell? ⟨T8, 1, none⟩ = some (.int .i64 x0.hi) := hp_cell hSw.1 (by rfl)
        have z2 : w.cell? ⟨T8, 2, none⟩ = some (.int .i64 x1.lo) := hp_cell hSw.1 (by rfl)
        have z3 : w.cell? ⟨T8, 3, none⟩ = some (.int .i64 x1.hi) := hp_cell hSw.1 (by rfl)
        have z4 : w.cell? ⟨T8, 4, none⟩ = some (.int .i64 x2.lo) := hp_cell hSw.1 (by rfl)
        have z5 : w.cell? ⟨T8, 5, none⟩ = some (.int .i64 x2.hi) := hp_cell hSw.1 (by rfl)
        have z6 : w.cell? ⟨T8, 6, none⟩ = some (.int .i64 x3.lo) := hp_cell hSw.1 (by rfl)
        have z7 : w.cell? ⟨T8, 7, none⟩ = some (.int .i64 x3.hi) := hp_cell hSw.1 (by rfl)
        go_simp
        (try with_reducible rfl)
      try simp only [Act.put, List.getElem_toArray, List.getElem_cons_succ, List.getElem_cons_zero, List.setIfInBounds_toArray, List.set_cons_zero, List.set_cons_succ]
      refine wpAnyH_take (i := 6) (oi := ?oiq5) (v := ?vq5) ?hiq5 (by kernel_rfl) (by kernel_rfl) (by kernel_rfl) ?hqq5 ?hyq5 hHeld ?restq5
      case hiq5 => exact rfl
      case hqq5 => exact fun _ _ _ h => h
      case hyq5 =>
        refine Or.inl ⟨by rfl, ?_⟩
        intro w hSw
        go_simp
        (try with_reducible rfl)
      try simp only [Act.put, List.getElem_toArray, List.getElem_cons_succ, List.getElem_cons_zero, List.setIfInBounds_toArray, List.set_cons_zero, List.set_cons_succ]
      refine wpAnyH_take (i := 7) (oi := ?oiq6) (v := (.agg #[.int .i64 (m + 1), .int .i64 y.hi])) ?hiq6 (by kernel_rfl) (by kernel_rfl) (by kernel_rfl) ?hqq6 ?hyq6 hHeld ?restq6
      case hiq6 => exact rfl
      case hqq6 => exact fun _ _ _ h => h
      case hyq6 =>
        refine Or.inl ⟨by rfl, ?_⟩
        intro w hSw
        have z0 : w.cell? ⟨T10, 0, none⟩ = some (.int .i64 (m + 1)) := hp_cell hSw.2.2 (by rfl)
        have z1 : w.cell? ⟨T10, 1, none⟩ = some (.int .i64 y.hi) := hp_cell hSw.2.2 (by rfl)
        go_simp
        (try with_reducible rfl)
      try simp only [Act.put, List.getElem_toArray, List.getElem_cons_succ, List.getElem_cons_zero, List.setIfInBounds_toArray, List.set_cons_zero, List.set_cons_succ]
      refine wpAnyH_ready (rs := [3]) (by kernel_rfl) (by simp) ?_
      refine AllReadyH.cons (o := ?or16_3) ?hr16_3 ?kr16_3 AllReadyH.nil
      case hr16_3 => exact rfl
      case kr16_3 =>
        intro K hK
        go_simp
        refine (HW1.out _).mono ?_
        rintro e wa1 ⟨rfl, hBa⟩
        have HA1 := Lib.hid hBa
        clear hBa
        refine hK.out _ _ ⟨hp_below (hp_drew HT.out) HA1.out (hp_lt HT.out), hp_below (hp_drew H9.out) HA1.out (hp_lt H9.out), hp_below (hp_drew H10.out) HA1.out (hp_lt H10.out)⟩ (fun hHeld => ?_)
        clear hK K
        try simp only [Act.put, List.getElem_toArray, List.getElem_cons_succ, List.getElem_cons_zero, List.setIfInBounds_toArray, List.set_cons_zero, List.set_cons_succ]
        refine wpAnyH_ready (rs := [4]) (by kernel_rfl) (by simp) ?_
        refine AllReadyH.cons (o := ?or15_4) ?hr15_4 ?kr15_4 AllReadyH.nil
        case hr15_4 => exact rfl
        case kr15_4 =>
          intro K hK
          go_simp
          refine (HG1.out _).mono ?_
          rintro e wa2 ⟨v1, k1, rfl, hown, hBa⟩
          have HA2 := Lib.hid (HA1.out.trans (hBa.mono HA1.out.size))
          have HO1 := Lib.hid (ranges_of_own hown).1
          clear hBa hown
          rw [HL1.out]
          refine hK.out _ _ ⟨hp_below (hp_drew HT.out) HA2.out (hp_lt HT.out), hp_below (hp_drew H9.out) HA2.out (hp_lt H9.out), hp_below (hp_drew H10.out) HA2.out (hp_lt H10.out)⟩ (fun hHeld => ?_)
          clear hK K
          try simp only [Act.put, List.getElem_toArray, List.getElem_cons_succ, List.getElem_cons_zero, List.setIfInBounds_toArray, List.set_cons_zero, List.set_cons_succ]
          refine wpAnyH_ready (rs := [8]) (by kernel_rfl) (by simp) ?_
          refine AllReadyH.cons (o := ?or14_8) ?hr14_8 ?kr14_8 AllReadyH.nil
          case hr14_8 => exact rfl
          case kr14_8 =>
            intro K hK
            go_simp
            refine (HW2.out _).mono ?_
            rintro e wa3 ⟨rfl, hBa⟩
            have HX3 := Lib.hid hBa
            have HA3 := Lib.hid (HA2.out.trans (hBa.mono HA2.out.size))
            clear hBa
            refine hK.out _ _ ⟨hp_below (hp_drew HT.out) HA3.out (hp_lt HT.out), hp_below (hp_drew H9.out) HA3.out (hp_lt H9.out), hp_below (hp_drew H10.out) HA3.out (hp_lt H10.out)⟩ (fun hHeld => ?_)
            clear hK K
            try simp only [Act.put, List.getElem_toArray, List.getElem_cons_succ, List.getElem_cons_zero, List.setIfInBounds_toArray, List.set_cons_zero, List.set_cons_succ]
            refine wpAnyH_ready (rs := [9]) (by kernel_rfl) (by simp) ?_
            refine AllReadyH.cons (o := ?or13_9) ?hr13_9 ?kr13_9 AllReadyH.nil
            case hr13_9 => exact rfl
            case kr13_9 =>
              intro K hK
              go_simp
              refine (HG2.out _).mono ?_
              rintro e wa4 ⟨v2, k2, rfl, hown, hBa⟩
              have HX4 := Lib.hid hBa
              have HA4 := Lib.hid (HA3.out.trans (hBa.mono HA3.out.size))
              have HO2 := Lib.hid (ranges_of_own hown).1
              clear hBa hown
              rw [HL2.out]
              refine hK.out _ _ ⟨hp_below (hp_drew HT.out) HA4.out (hp_lt HT.out), hp_below (hp_drew H9.out) HA4.out (hp_lt H9.out), hp_below (hp_drew H10.out) HA4.out (hp_lt H10.out)⟩ (fun hHeld => ?_)
              clear hK K
              try simp only [Act.put, List.getElem_toArray, List.getElem_cons_succ, List.getElem_cons_zero, List.setIfInBounds_toArray, List.set_cons_zero, List.set_cons_succ]
              refine wpAnyH_take (i := 10) (oi := ?oiq10) (v := ?vq10) ?hiq10 (by kernel_rfl) (by kernel_rfl) (by kernel_rfl) ?hqq10 ?hyq10 hHeld ?restq10
              case hiq10 => exact rfl
              case hqq10 => exact fun _ _ _ h => h
              case hyq10 =>
                refine Or.inl ⟨by rfl, ?_⟩
                intro w hSw
                go_simp
                (try with_reducible rfl)
              try simp only [Act.put, List.getElem_toArray, List.getElem_cons_succ, List.getElem_cons_zero, List.setIfInBounds_toArray, List.set_cons_zero, List.set_cons_succ]
              refine wpAnyH_take (i := 11) (oi := ?oiq11) (v := ?vq11) ?hiq11 (by kernel_rfl) (by kernel_rfl) (by kernel_rfl) ?hqq11 ?hyq11 hHeld ?restq11
              case hiq11 => exact rfl
              case hqq11 => exact fun _ _ _ h => h
              case hyq11 =>
                refine Or.inl ⟨by rfl, ?_⟩
                intro w hSw
                go_simp
                (try with_reducible rfl)
              try simp only [Act.put, List.getElem_toArray, List.getElem_cons_succ, List.getElem_cons_zero, List.setIfInBounds_toArray, List.set_cons_zero, List.set_cons_succ]
              refine wpAnyH_take (i := 12) (oi := ?oiq12) (v := ?vq12) ?hiq12 (by kernel_rfl) (by kernel_rfl) (by kernel_rfl) ?hqq12 ?hyq12 hHeld ?restq12
              case hiq12 => exact rfl
              case hqq12 => exact fun _ _ _ h => h
              case hyq12 =>
                refine Or.inl ⟨by rfl, ?_⟩
                intro w hSw
                go_simp
                (try with_reducible rfl)
              try simp only [Act.put, List.getElem_toArray, List.getElem_cons_succ, List.getElem_cons_zero, List.setIfInBounds_toArray, List.set_cons_zero, List.set_cons_succ]
              refine wpAnyH_done (by kernel_rfl) ?_ _
              clear hHeld
              go_wp2_with fail
              go_ret3
              exact ⟨v1, v2, k1, k2, by rw [HL1.out, HL2.out]; rfl, (HO1.out.below HX3.out (Nat.le_refl _)).below HX4.out (Nat.le_refl _), HO2.out, HBA.out.drew.trans (HA4.out.mono HBA.out.size)⟩
  · have hc : hvC b r = fe (vb b) (if isReg r then 0 else 1) := by unfold hvC; rw [if_neg hz]
    rw [show hvL b r = [] by unfold hvL; rw [if_neg (by rw [hc]; exact hz)], show hvH b r = [] by unfold hvH; rw [if_neg (by rw [hc]; exact hz)], hc]
    have hz1 : (fe (vb b) (if isReg r then 0 else 1) != 0) = true := by simpa using hz
    have hz2 : (fe (vb b) (if isReg r then 0 else 1) == 0) = false := by simpa using hz
    generalize vb b = v1 at *
    generalize (if isReg r then (0 : Int) else 1) = v2 at *
    clear hz hc hb
    go_enter Try.func38, Try.ntmps38
    go_wp2_with fail
    refine (H1.out _ HR.out).mono ?_
    rintro e w1 ⟨rfl, hB⟩
    have HB0 := Lib.hid hB
    clear hB
    go_wp2_with fail
    refine (H2.out _).mono ?_
    rintro e w0 ⟨rfl, rfl⟩
    go_wp2_with fail
    refine (firstError_two _ _ _ _).mono ?_
    rintro e w9 ⟨rfl, hw9⟩
    have HB9 := Lib.hid (show Below w.heap.size w w9 by rw [← hw9]; exact HB0.out.alloc HB0.out.size _)
    clear hw9
    go_wp2_with fail
    go_ret3
    exact givesRg2_nil HB9.out

end Go.Proofs.Ytmpgaccpdglhkaa
