/- SeekNears: the walk. -/
import Derived.Test.YtfmheeboogffeaaNear
set_option linter.unusedVariables false
set_option linter.unusedSimpArgs false
namespace Go.Proofs.Ytfmheeboogffeaa
open Go.RowKit Tinker

theorem same_1 : nrB ⟨1, 0, 3, 0⟩ ⟨1, 2, 3, 0⟩ = true ∧ nrC ⟨1, 0, 3, 0⟩ ⟨1, 2, 3, 0⟩ = 0 := by decide +kernel
theorem same_2 : nrB ⟨1, 0, 3, 0⟩ ⟨1, 0, 5, 0⟩ = false ∧ nrC ⟨1, 0, 3, 0⟩ ⟨1, 0, 5, 0⟩ = 0 := by decide +kernel
set_option maxHeartbeats 1000000 in
theorem same5_any (w : World) : Calls Try.prog 7 #[] w fun e w' => e = .returned (.bool true) ∧ Below w.heap.size w w' := by
  have H1 := Lib.hid (fun w => near_any ⟨1, 0, 3, 0⟩ ⟨1, 2, 3, 0⟩ w)
  have H2 := Lib.hid (fun w => near_any ⟨1, 0, 3, 0⟩ ⟨1, 0, 5, 0⟩ w)
  rw [same_1.1, same_1.2] at H1
  rw [same_2.1, same_2.2] at H2
  unfold lv at H1 H2
  go_enter Try.func7, Try.ntmps7
  go_wp2_with fail
  refine (H1.out _).mono ?_
  rintro e w1 ⟨rfl, hB⟩
  have HB1 := Lib.hid hB
  clear hB
  go_wp2_with fail
  refine (H2.out _).mono ?_
  rintro e w2 ⟨rfl, hB⟩
  have HB2 := Lib.hid (HB1.out.trans (hB.mono HB1.out.size))
  clear hB
  go_wp2_with fail
  go_ret
  exact ⟨rfl, HB2.out⟩

theorem nrC_comm (l m : L) : nrC m l = nrC l m := by
  unfold nrC vl fe
  cases isLn l <;> cases isLn m <;> rfl
theorem eqI_comm (a b : Int) : (a == b) = (b == a) := by rw [Bool.eq_iff_iff]; simp; exact ⟨fun h => h.symm, fun h => h.symm⟩
theorem neI_comm (a b : Int) : (a != b) = (b != a) := by unfold bne; rw [eqI_comm]
theorem nearB_comm {l m : L} (h1 : l.op ≠ 0) (h2 : m.op ≠ 0) : nearB m l = nearB l m := by
  have z1 : (l.op == 0) = false := by simpa using h1
  have z2 : (m.op == 0) = false := by simpa using h2
  unfold nearB
  rw [eqL_comm m l, dsN_comm m l, z1, z2]
  cases eqL l m
  · by_cases he : m.op = l.op
    · have e1 : (m.op != l.op) = false := by simpa using he
      have e2 : (l.op != m.op) = false := by simpa using he.symm
      rw [e1, e2, he, eqI_comm m.to l.to, eqI_comm m.a l.b, eqI_comm m.b l.a, Bool.and_comm (l.b == m.a) (l.a == m.b), neI_comm m.a l.a, neI_comm m.to l.to, Bool.or_comm (m.a - l.a == 1), Bool.or_comm (m.to - l.to == 1)]
    · have e1 : (m.op != l.op) = true := by simpa using he
      have e2 : (l.op != m.op) = true := by simpa using fun h : l.op = m.op => he h.symm
      rw [e1, e2]
      cases mixB l.op <;> cases mixB m.op <;> simp
  · rfl
theorem nrB_0 {l m : L} (h : l.op = 0) : nrB l m = false := by
  unfold nrB nearB
  rw [h]
  simp

set_option maxRecDepth 100000 in
set_option maxHeartbeats 8000000 in
theorem seekNears_walk (l m : L) (ww : World) : Calls Try.prog 3 #[lv l, lv m] ww fun e w' => e = .returned (.bool true) ∧ Below ww.heap.size ww w' := by
  have HN1 := Lib.hid (fun w => near_any l m w)
  have HN2 := Lib.hid (fun w => near_any m l w)
  have HS := Lib.hid (fun w => same5_any w)
  rw [nrC_comm l m] at HN2
  obtain ⟨W0, hW0⟩ : ∃ W, W = (ww.alloc (.cells (lV l) 23)).alloc (.cells (lV m) 23) := ⟨_, rfl⟩
  have hb : Below ww.heap.size ww W0 := by rw [hW0]; exact ((Below.refl _ _).alloc (Nat.le_refl _) _).alloc (by simp) _
  have h1 : W0.heap[ww.heap.size]? = some (.cells (lV l) 23 (0, 0)) := by rw [hW0]; exact hp_alloc (hp_new rfl)
  have h2 : W0.heap[ww.heap.size + 1]? = some (.cells (lV m) 23 (0, 0)) := by rw [hW0]; exact hp_new (by simp)
  obtain ⟨x0, x1, x2, x3⟩ := boxL_cells h1
  obtain ⟨y0, y1, y2, y3⟩ := boxL_cells h2
  have HBw := Lib.hid hb
  have HX1 := Lib.hid h1
  have HX2 := Lib.hid h2
  clear hb h1 h2
  unfold lv at HN1 HN2 ⊢
  unfold lV at hW0
  by_cases hz : nrC l m = 0
  · rw [hz] at HN1 HN2
    clear hz
    by_cases h0 : l.op = 0
    · have hA := nrB_0 (m := m) h0
      have e0 : (l.op == 0) = true := by simpa using h0
      rw [hA] at HN1
      clear hA h0
      generalize nrB m l = B at *
      go_enter Try.func3, Try.ntmps3
      rw [hW0] at x0 x1 x2 x3 y0 y1 y2 y3
      go_wp2_with fail
      rw [← hW0]
      clear hW0 x0 x1 x2 x3 y0 y1 y2 y3
      refine (HN1.out _).mono ?_
      rintro e w1 ⟨rfl, hB⟩
      have HX1 := Lib.hid (hp_below HX1.out hB (hp_lt HX1.out))
      have HX2 := Lib.hid (hp_below HX2.out hB (hp_lt HX2.out))
      have HB1 := Lib.hid (HBw.out.trans (hB.mono HBw.out.size))
      clear hB
      obtain ⟨p0, p1, p2, p3⟩ := boxL_cells HX1.out
      obtain ⟨q0, q1, q2, q3⟩ := boxL_cells HX2.out
      go_wp2_with fail
      clear p0 p1 p2 p3 q0 q1 q2 q3
      refine (HN2.out _).mono ?_
      rintro e w2 ⟨rfl, hB⟩
      have HX1 := Lib.hid (hp_below HX1.out hB (hp_lt HX1.out))
      have HX2 := Lib.hid (hp_below HX2.out hB (hp_lt HX2.out))
      have HB2 := Lib.hid (HB1.out.trans (hB.mono HB1.out.size))
      clear hB
      obtain ⟨p0, p1, p2, p3⟩ := boxL_cells HX1.out
      obtain ⟨q0, q1, q2, q3⟩ := boxL_cells HX2.out
      go_wp2_with fail
      refine (HS.out _).mono ?_
      rintro e w3 ⟨rfl, hB⟩
      have HB3 := Lib.hid (HB2.out.trans (hB.mono HB2.out.size))
      clear hB p0 p1 p2 p3 q0 q1 q2 q3
      go_wp2_with fail
      go_ret
      exact ⟨rfl, HB3.out⟩
    have e0 : (l.op == 0) = false := by simpa using h0
    by_cases k0 : m.op = 0
    · have f0 : (m.op == 0) = true := by simpa using k0
      clear h0 k0
      generalize nrB l m = A at *
      generalize nrB m l = B at *
      go_enter Try.func3, Try.ntmps3
      rw [hW0] at x0 x1 x2 x3 y0 y1 y2 y3
      go_wp2_with fail
      rw [← hW0]
      clear hW0 x0 x1 x2 x3 y0 y1 y2 y3
      refine (HN1.out _).mono ?_
      rintro e w1 ⟨rfl, hB⟩
      have HX1 := Lib.hid (hp_below HX1.out hB (hp_lt HX1.out))
      have HX2 := Lib.hid (hp_below HX2.out hB (hp_lt HX2.out))
      have HB1 := Lib.hid (HBw.out.trans (hB.mono HBw.out.size))
      clear hB
      obtain ⟨p0, p1, p2, p3⟩ := boxL_cells HX1.out
      obtain ⟨q0, q1, q2, q3⟩ := boxL_cells HX2.out
      go_wp2_with fail
      clear p0 p1 p2 p3 q0 q1 q2 q3
      refine (HN2.out _).mono ?_
      rintro e w2 ⟨rfl, hB⟩
      have HX1 := Lib.hid (hp_below HX1.out hB (hp_lt HX1.out))
      have HX2 := Lib.hid (hp_below HX2.out hB (hp_lt HX2.out))
      have HB2 := Lib.hid (HB1.out.trans (hB.mono HB1.out.size))
      clear hB
      obtain ⟨p0, p1, p2, p3⟩ := boxL_cells HX1.out
      obtain ⟨q0, q1, q2, q3⟩ := boxL_cells HX2.out
      go_wp2_with fail
      refine (HS.out _).mono ?_
      rintro e w3 ⟨rfl, hB⟩
      have HB3 := Lib.hid (HB2.out.trans (hB.mono HB2.out.size))
      clear hB p0 p1 p2 p3 q0 q1 q2 q3
      go_wp2_with fail
      go_ret
      exact ⟨rfl, HB3.out⟩
    have f0 : (m.op == 0) = false := by simpa using k0
    have hc : nrB m l = nrB l m := by unfold nrB; rw [nearB_comm h0 k0]; cases isLn l <;> cases isLn m <;> rfl
    rw [hc] at HN2
    have r1 := run_neL l m
    have hne : nrB l m = true → eqL l m = false := fun h => by
      unfold nrB at h
      rw [Bool.and_eq_true, Bool.and_eq_true] at h
      exact eqL_false (fun e => near_ne h.2.2 e.symm)
    clear h0 k0 hc
    cases hA : nrB l m
    · rw [hA] at HN1 HN2
      clear hA hne
      cases hq : eqL l m
      · rw [hq, Bool.not_false] at r1
        clear hq
        go_enter Try.func3, Try.ntmps3
        rw [hW0] at x0 x1 x2 x3 y0 y1 y2 y3
        go_wp2_with fail
        rw [← hW0]
        clear hW0 x0 x1 x2 x3 y0 y1 y2 y3
        refine (HN1.out _).mono ?_
        rintro e w1 ⟨rfl, hB⟩
        have HX1 := Lib.hid (hp_below HX1.out hB (hp_lt HX1.out))
        have HX2 := Lib.hid (hp_below HX2.out hB (hp_lt HX2.out))
        have HB1 := Lib.hid (HBw.out.trans (hB.mono HBw.out.size))
        clear hB
        obtain ⟨p0, p1, p2, p3⟩ := boxL_cells HX1.out
        obtain ⟨q0, q1, q2, q3⟩ := boxL_cells HX2.out
        go_wp2_with fail
        clear p0 p1 p2 p3 q0 q1 q2 q3
        refine (HN2.out _).mono ?_
        rintro e w2 ⟨rfl, hB⟩
        have HX1 := Lib.hid (hp_below HX1.out hB (hp_lt HX1.out))
        have HX2 := Lib.hid (hp_below HX2.out hB (hp_lt HX2.out))
        have HB2 := Lib.hid (HB1.out.trans (hB.mono HB1.out.size))
        clear hB
        obtain ⟨p0, p1, p2, p3⟩ := boxL_cells HX1.out
        obtain ⟨q0, q1, q2, q3⟩ := boxL_cells HX2.out
        go_wp2_with fail
        refine (HS.out _).mono ?_
        rintro e w3 ⟨rfl, hB⟩
        have HB3 := Lib.hid (HB2.out.trans (hB.mono HB2.out.size))
        clear hB p0 p1 p2 p3 q0 q1 q2 q3
        go_wp2_with fail
        go_ret
        exact ⟨rfl, HB3.out⟩
      · rw [hq, Bool.not_true] at r1
        clear hq
        go_enter Try.func3, Try.ntmps3
        rw [hW0] at x0 x1 x2 x3 y0 y1 y2 y3
        go_wp2_with fail
        rw [← hW0]
        clear hW0 x0 x1 x2 x3 y0 y1 y2 y3
        refine (HN1.out _).mono ?_
        rintro e w1 ⟨rfl, hB⟩
        have HX1 := Lib.hid (hp_below HX1.out hB (hp_lt HX1.out))
        have HX2 := Lib.hid (hp_below HX2.out hB (hp_lt HX2.out))
        have HB1 := Lib.hid (HBw.out.trans (hB.mono HBw.out.size))
        clear hB
        obtain ⟨p0, p1, p2, p3⟩ := boxL_cells HX1.out
        obtain ⟨q0, q1, q2, q3⟩ := boxL_cells HX2.out
        go_wp2_with fail
        clear p0 p1 p2 p3 q0 q1 q2 q3
        refine (HN2.out _).mono ?_
        rintro e w2 ⟨rfl, hB⟩
        have HX1 := Lib.hid (hp_below HX1.out hB (hp_lt HX1.out))
        have HX2 := Lib.hid (hp_below HX2.out hB (hp_lt HX2.out))
        have HB2 := Lib.hid (HB1.out.trans (hB.mono HB1.out.size))
        clear hB
        obtain ⟨p0, p1, p2, p3⟩ := boxL_cells HX1.out
        obtain ⟨q0, q1, q2, q3⟩ := boxL_cells HX2.out
        go_wp2_with fail
        refine (HS.out _).mono ?_
        rintro e w3 ⟨rfl, hB⟩
        have HB3 := Lib.hid (HB2.out.trans (hB.mono HB2.out.size))
        clear hB p0 p1 p2 p3 q0 q1 q2 q3
        go_wp2_with fail
        go_ret
        exact ⟨rfl, HB3.out⟩
    · have hq := hne hA
      rw [hq, Bool.not_false] at r1
      rw [hA] at HN1 HN2
      clear hq hA hne
      go_enter Try.func3, Try.ntmps3
      rw [hW0] at x0 x1 x2 x3 y0 y1 y2 y3
      go_wp2_with fail
      rw [← hW0]
      clear hW0 x0 x1 x2 x3 y0 y1 y2 y3
      refine (HN1.out _).mono ?_
      rintro e w1 ⟨rfl, hB⟩
      have HX1 := Lib.hid (hp_below HX1.out hB (hp_lt HX1.out))
      have HX2 := Lib.hid (hp_below HX2.out hB (hp_lt HX2.out))
      have HB1 := Lib.hid (HBw.out.trans (hB.mono HBw.out.size))
      clear hB
      obtain ⟨p0, p1, p2, p3⟩ := boxL_cells HX1.out
      obtain ⟨q0, q1, q2, q3⟩ := boxL_cells HX2.out
      go_wp2_with fail
      clear p0 p1 p2 p3 q0 q1 q2 q3
      refine (HN2.out _).mono ?_
      rintro e w2 ⟨rfl, hB⟩
      have HX1 := Lib.hid (hp_below HX1.out hB (hp_lt HX1.out))
      have HX2 := Lib.hid (hp_below HX2.out hB (hp_lt HX2.out))
      have HB2 := Lib.hid (HB1.out.trans (hB.mono HB1.out.size))
      clear hB
      obtain ⟨p0, p1, p2, p3⟩ := boxL_cells HX1.out
      obtain ⟨q0, q1, q2, q3⟩ := boxL_cells HX2.out
      go_wp2_with fail
      refine (HS.out _).mono ?_
      rintro e w3 ⟨rfl, hB⟩
      have HB3 := Lib.hid (HB2.out.trans (hB.mono HB2.out.size))
      clear hB p0 p1 p2 p3 q0 q1 q2 q3
      go_wp2_with fail
      go_ret
      exact ⟨rfl, HB3.out⟩
  · have n1 : (nrC l m != 0) = true := by simpa using hz
    have n2 : (nrC l m == 0) = false := by simpa using hz
    clear hz
    generalize nrC l m = q at *
    generalize nrB l m = A at *
    generalize nrB m l = B at *
    go_enter Try.func3, Try.ntmps3
    rw [hW0] at x0 x1 x2 x3 y0 y1 y2 y3
    go_wp2_with fail
    rw [← hW0]
    clear hW0 x0 x1 x2 x3 y0 y1 y2 y3
    refine (HN1.out _).mono ?_
    rintro e w1 ⟨rfl, hB⟩
    have HX1 := Lib.hid (hp_below HX1.out hB (hp_lt HX1.out))
    have HX2 := Lib.hid (hp_below HX2.out hB (hp_lt HX2.out))
    have HB1 := Lib.hid (HBw.out.trans (hB.mono HBw.out.size))
    clear hB
    obtain ⟨p0, p1, p2, p3⟩ := boxL_cells HX1.out
    obtain ⟨q0, q1, q2, q3⟩ := boxL_cells HX2.out
    go_wp2_with fail
    clear p0 p1 p2 p3 q0 q1 q2 q3
    refine (HN2.out _).mono ?_
    rintro e w2 ⟨rfl, hB⟩
    have HX1 := Lib.hid (hp_below HX1.out hB (hp_lt HX1.out))
    have HX2 := Lib.hid (hp_below HX2.out hB (hp_lt HX2.out))
    have HB2 := Lib.hid (HB1.out.trans (hB.mono HB1.out.size))
    clear hB
    obtain ⟨p0, p1, p2, p3⟩ := boxL_cells HX1.out
    obtain ⟨q0, q1, q2, q3⟩ := boxL_cells HX2.out
    go_wp2_with fail
    refine (HS.out _).mono ?_
    rintro e w3 ⟨rfl, hB⟩
    have HB3 := Lib.hid (HB2.out.trans (hB.mono HB2.out.size))
    clear hB p0 p1 p2 p3 q0 q1 q2 q3
    go_wp2_with fail
    go_ret
    exact ⟨rfl, HB3.out⟩

end Go.Proofs.Ytfmheeboogffeaa
