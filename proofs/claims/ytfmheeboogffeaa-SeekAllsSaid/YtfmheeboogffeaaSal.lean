/- Several texts in one. -/
import Derived.Test.YtfmheeboogffeaaNear
import Derived.Test.YtfmheeboogffeaaSkC
import Derived.BigQuiet
/- SeekNears: the walk. -/
set_option linter.unusedVariables false
set_option linter.unusedSimpArgs false
namespace Go.Proofs.Ytfmheeboogffeaa
open Go.RowKit Tinker

theorem same_1 : nrB ⟨1, 0, 3, 0⟩ ⟨1, 2, 3, 0⟩ = true ∧ nrC ⟨1, 0, 3, 0⟩ ⟨1, 2, 3, 0⟩ = 0 := by decide +kernel
theorem same_2 : nrB ⟨1, 0, 3, 0⟩ ⟨1, 0, 5, 0⟩ = false ∧ nrC ⟨1, 0, 3, 0⟩ ⟨1, 0, 5, 0⟩ = 0 := by decide +kernel
set_option maxHeartbeats 1000000 in
theorem same5_any (w : World) : Calls Try.prog 7 #[] w fun e w' => e = .returned (.bool true) ∧ Below w.heap.size w w' := by
  have H1 := Lib.hid (fun w => near_any ⟨1, 0, 3, 0⟩ ⟨1, 2, 3, 0⟩ w)
  have H2 := Lib.hid (fun w => near_any ⟨1, 0, 3, 0⟩ ⟨1, 0, 5, 0⟩ w)
  rw [same_1.1, same_1.2] at H1
  rw [same_2.1, same_2.2] at H2
  unfold lv at H1 H2
  go_enter Try.func7, Try.ntmps7
  go_wp2_with fail
  refine (H1.out _).mono ?_
  rintro e w1 ⟨rfl, hB⟩
  have HB1 := Lib.hid hB
  clear hB
  go_wp2_with fail
  refine (H2.out _).mono ?_
  rintro e w2 ⟨rfl, hB⟩
  have HB2 := Lib.hid (HB1.out.trans (hB.mono HB1.out.size))
  clear hB
  go_wp2_with fail
  go_ret
  exact ⟨rfl, HB2.out⟩

theorem nrC_comm (l m : L) : nrC m l = nrC l m := by
  unfold nrC vl fe
  cases isLn l <;> cases isLn m <;> rfl
theorem eqI_comm (a b : Int) : (a == b) = (b == a) := by rw [Bool.eq_iff_iff]; simp; exact ⟨fun h => h.symm, fun h => h.symm⟩
theorem neI_comm (a b : Int) : (a != b) = (b != a) := by unfold bne; rw [eqI_comm]
theorem nearB_comm {l m : L} (h1 : l.op ≠ 0) (h2 : m.op ≠ 0) : nearB m l = nearB l m := by
  have z1 : (l.op == 0) = false := by simpa using h1
  have z2 : (m.op == 0) = false := by simpa using h2
  unfold nearB
  rw [eqL_comm m l, dsN_comm m l, z1, z2]
  cases eqL l m
  · by_cases he : m.op = l.op
    · have e1 : (m.op != l.op) = false := by simpa using he
      have e2 : (l.op != m.op) = false := by simpa using he.symm
      rw [e1, e2, he, eqI_comm m.to l.to, eqI_comm m.a l.b, eqI_comm m.b l.a, Bool.and_comm (l.b == m.a) (l.a == m.b), neI_comm m.a l.a, neI_comm m.to l.to, Bool.or_comm (m.a - l.a == 1), Bool.or_comm (m.to - l.to == 1)]
    · have e1 : (m.op != l.op) = true := by simpa using he
      have e2 : (l.op != m.op) = true := by simpa using fun h : l.op = m.op => he h.symm
      rw [e1, e2]
      cases mixB l.op <;> cases mixB m.op <;> simp
  · rfl
theorem nrB_0 {l m : L} (h : l.op = 0) : nrB l m = false := by
  unfold nrB nearB
  rw [h]
  simp

set_option maxRecDepth 100000 in
set_option maxHeartbeats 8000000 in
theorem seekNears_walk (l m : L) (ww : World) : Calls Try.prog 3 #[lv l, lv m] ww fun e w' => e = .returned (.bool true) ∧ Below ww.heap.size ww w' := by
  have HN1 := Lib.hid (fun w => near_any l m w)
  have HN2 := Lib.hid (fun w => near_any m l w)
  have HS := Lib.hid (fun w => same5_any w)
  rw [nrC_comm l m] at HN2
  obtain ⟨W0, hW0⟩ : ∃ W, W = (ww.alloc (.cells (lV l) 23)).alloc (.cells (lV m) 23) := ⟨_, rfl⟩
  have hb : Below ww.heap.size ww W0 := by rw [hW0]; exact ((Below.refl _ _).alloc (Nat.le_refl _) _).alloc (by simp) _
  have h1 : W0.heap[ww.heap.size]? = some (.cells (lV l) 23 (0, 0)) := by rw [hW0]; exact hp_alloc (hp_new rfl)
  have h2 : W0.heap[ww.heap.size + 1]? = some (.cells (lV m) 23 (0, 0)) := by rw [hW0]; exact hp_new (by simp)
  obtain ⟨x0, x1, x2, x3⟩ := boxL_cells h1
  obtain ⟨y0, y1, y2, y3⟩ := boxL_cells h2
  have HBw := Lib.hid hb
  have HX1 := Lib.hid h1
  have HX2 := Lib.hid h2
  clear hb h1 h2
  unfold lv at HN1 HN2 ⊢
  unfold lV at hW0
  by_cases hz : nrC l m = 0
  · rw [hz] at HN1 HN2
    clear hz
    by_cases h0 : l.op = 0
    · have hA := nrB_0 (m := m) h0
      have e0 : (l.op == 0) = true := by simpa using h0
      rw [hA] at HN1
      clear hA h0
      generalize nrB m l = B at *
      go_enter Try.func3, Try.ntmps3
      rw [hW0] at x0 x1 x2 x3 y0 y1 y2 y3
      go_wp2_with fail
      rw [← hW0]
      clear hW0 x0 x1 x2 x3 y0 y1 y2 y3
      refine (HN1.out _).mono ?_
      rintro e w1 ⟨rfl, hB⟩
      have HX1 := Lib.hid (hp_below HX1.out hB (hp_lt HX1.out))
      have HX2 := Lib.hid (hp_below HX2.out hB (hp_lt HX2.out))
      have HB1 := Lib.hid (HBw.out.trans (hB.mono HBw.out.size))
      clear hB
      obtain ⟨p0, p1, p2, p3⟩ := boxL_cells HX1.out
      obtain ⟨q0, q1, q2, q3⟩ := boxL_cells HX2.out
      go_wp2_with fail
      clear p0 p1 p2 p3 q0 q1 q2 q3
      refine (HN2.out _).mono ?_
      rintro e w2 ⟨rfl, hB⟩
      have HX1 := Lib.hid (hp_below HX1.out hB (hp_lt HX1.out))
      have HX2 := Lib.hid (hp_below HX2.out hB (hp_lt HX2.out))
      have HB2 := Lib.hid (HB1.out.trans (hB.mono HB1.out.size))
      clear hB
      obtain ⟨p0, p1, p2, p3⟩ := boxL_cells HX1.out
      obtain ⟨q0, q1, q2, q3⟩ := boxL_cells HX2.out
      go_wp2_with fail
      refine (HS.out _).mono ?_
      rintro e w3 ⟨rfl, hB⟩
      have HB3 := Lib.hid (HB2.out.trans (hB.mono HB2.out.size))
      clear hB p0 p1 p2 p3 q0 q1 q2 q3
      go_wp2_with fail
      go_ret
      exact ⟨rfl, HB3.out⟩
    have e0 : (l.op == 0) = false := by simpa using h0
    by_cases k0 : m.op = 0
    · have f0 : (m.op == 0) = true := by simpa using k0
      clear h0 k0
      generalize nrB l m = A at *
      generalize nrB m l = B at *
      go_enter Try.func3, Try.ntmps3
      rw [hW0] at x0 x1 x2 x3 y0 y1 y2 y3
      go_wp2_with fail
      rw [← hW0]
      clear hW0 x0 x1 x2 x3 y0 y1 y2 y3
      refine (HN1.out _).mono ?_
      rintro e w1 ⟨rfl, hB⟩
      have HX1 := Lib.hid (hp_below HX1.out hB (hp_lt HX1.out))
      have HX2 := Lib.hid (hp_below HX2.out hB (hp_lt HX2.out))
      have HB1 := Lib.hid (HBw.out.trans (hB.mono HBw.out.size))
      clear hB
      obtain ⟨p0, p1, p2, p3⟩ := boxL_cells HX1.out
      obtain ⟨q0, q1, q2, q3⟩ := boxL_cells HX2.out
      go_wp2_with fail
      clear p0 p1 p2 p3 q0 q1 q2 q3
      refine (HN2.out _).mono ?_
      rintro e w2 ⟨rfl, hB⟩
      have HX1 := Lib.hid (hp_below HX1.out hB (hp_lt HX1.out))
      have HX2 := Lib.hid (hp_below HX2.out hB (hp_lt HX2.out))
      have HB2 := Lib.hid (HB1.out.trans (hB.mono HB1.out.size))
      clear hB
      obtain ⟨p0, p1, p2, p3⟩ := boxL_cells HX1.out
      obtain ⟨q0, q1, q2, q3⟩ := boxL_cells HX2.out
      go_wp2_with fail
      refine (HS.out _).mono ?_
      rintro e w3 ⟨rfl, hB⟩
      have HB3 := Lib.hid (HB2.out.trans (hB.mono HB2.out.size))
      clear hB p0 p1 p2 p3 q0 q1 q2 q3
      go_wp2_with fail
      go_ret
      exact ⟨rfl, HB3.out⟩
    have f0 : (m.op == 0) = false := by simpa using k0
    have hc : nrB m l = nrB l m := by unfold nrB; rw [nearB_comm h0 k0]; cases isLn l <;> cases isLn m <;> rfl
    rw [hc] at HN2
    have r1 := run_neL l m
    have hne : nrB l m = true → eqL l m = false := fun h => by
      unfold nrB at h
      rw [Bool.and_eq_true, Bool.and_eq_true] at h
      exact eqL_false (fun e => near_ne h.2.2 e.symm)
    clear h0 k0 hc
    cases hA : nrB l m
    · rw [hA] at HN1 HN2
      clear hA hne
      cases hq : eqL l m
      · rw [hq, Bool.not_false] at r1
        clear hq
        go_enter Try.func3, Try.ntmps3
        rw [hW0] at x0 x1 x2 x3 y0 y1 y2 y3
        go_wp2_with fail
        rw [← hW0]
        clear hW0 x0 x1 x2 x3 y0 y1 y2 y3
        refine (HN1.out _).mono ?_
        rintro e w1 ⟨rfl, hB⟩
        have HX1 := Lib.hid (hp_below HX1.out hB (hp_lt HX1.out))
        have HX2 := Lib.hid (hp_below HX2.out hB (hp_lt HX2.out))
        have HB1 := Lib.hid (HBw.out.trans (hB.mono HBw.out.size))
        clear hB
        obtain ⟨p0, p1, p2, p3⟩ := boxL_cells HX1.out
        obtain ⟨q0, q1, q2, q3⟩ := boxL_cells HX2.out
        go_wp2_with fail
        clear p0 p1 p2 p3 q0 q1 q2 q3
        refine (HN2.out _).mono ?_
        rintro e w2 ⟨rfl, hB⟩
        have HX1 := Lib.hid (hp_below HX1.out hB (hp_lt HX1.out))
        have HX2 := Lib.hid (hp_below HX2.out hB (hp_lt HX2.out))
        have HB2 := Lib.hid (HB1.out.trans (hB.mono HB1.out.size))
        clear hB
        obtain ⟨p0, p1, p2, p3⟩ := boxL_cells HX1.out
        obtain ⟨q0, q1, q2, q3⟩ := boxL_cells HX2.out
        go_wp2_with fail
        refine (HS.out _).mono ?_
        rintro e w3 ⟨rfl, hB⟩
        have HB3 := Lib.hid (HB2.out.trans (hB.mono HB2.out.size))
        clear hB p0 p1 p2 p3 q0 q1 q2 q3
        go_wp2_with fail
        go_ret
        exact ⟨rfl, HB3.out⟩
      · rw [hq, Bool.not_true] at r1
        clear hq
        go_enter Try.func3, Try.ntmps3
        rw [hW0] at x0 x1 x2 x3 y0 y1 y2 y3
        go_wp2_with fail
        rw [← hW0]
        clear hW0 x0 x1 x2 x3 y0 y1 y2 y3
        refine (HN1.out _).mono ?_
        rintro e w1 ⟨rfl, hB⟩
        have HX1 := Lib.hid (hp_below HX1.out hB (hp_lt HX1.out))
        have HX2 := Lib.hid (hp_below HX2.out hB (hp_lt HX2.out))
        have HB1 := Lib.hid (HBw.out.trans (hB.mono HBw.out.size))
        clear hB
        obtain ⟨p0, p1, p2, p3⟩ := boxL_cells HX1.out
        obtain ⟨q0, q1, q2, q3⟩ := boxL_cells HX2.out
        go_wp2_with fail
        clear p0 p1 p2 p3 q0 q1 q2 q3
        refine (HN2.out _).mono ?_
        rintro e w2 ⟨rfl, hB⟩
        have HX1 := Lib.hid (hp_below HX1.out hB (hp_lt HX1.out))
        have HX2 := Lib.hid (hp_below HX2.out hB (hp_lt HX2.out))
        have HB2 := Lib.hid (HB1.out.trans (hB.mono HB1.out.size))
        clear hB
        obtain ⟨p0, p1, p2, p3⟩ := boxL_cells HX1.out
        obtain ⟨q0, q1, q2, q3⟩ := boxL_cells HX2.out
        go_wp2_with fail
        refine (HS.out _).mono ?_
        rintro e w3 ⟨rfl, hB⟩
        have HB3 := Lib.hid (HB2.out.trans (hB.mono HB2.out.size))
        clear hB p0 p1 p2 p3 q0 q1 q2 q3
        go_wp2_with fail
        go_ret
        exact ⟨rfl, HB3.out⟩
    · have hq := hne hA
      rw [hq, Bool.not_false] at r1
      rw [hA] at HN1 HN2
      clear hq hA hne
      go_enter Try.func3, Try.ntmps3
      rw [hW0] at x0 x1 x2 x3 y0 y1 y2 y3
      go_wp2_with fail
      rw [← hW0]
      clear hW0 x0 x1 x2 x3 y0 y1 y2 y3
      refine (HN1.out _).mono ?_
      rintro e w1 ⟨rfl, hB⟩
      have HX1 := Lib.hid (hp_below HX1.out hB (hp_lt HX1.out))
      have HX2 := Lib.hid (hp_below HX2.out hB (hp_lt HX2.out))
      have HB1 := Lib.hid (HBw.out.trans (hB.mono HBw.out.size))
      clear hB
      obtain ⟨p0, p1, p2, p3⟩ := boxL_cells HX1.out
      obtain ⟨q0, q1, q2, q3⟩ := boxL_cells HX2.out
      go_wp2_with fail
      clear p0 p1 p2 p3 q0 q1 q2 q3
      refine (HN2.out _).mono ?_
      rintro e w2 ⟨rfl, hB⟩
      have HX1 := Lib.hid (hp_below HX1.out hB (hp_lt HX1.out))
      have HX2 := Lib.hid (hp_below HX2.out hB (hp_lt HX2.out))
      have HB2 := Lib.hid (HB1.out.trans (hB.mono HB1.out.size))
      clear hB
      obtain ⟨p0, p1, p2, p3⟩ := boxL_cells HX1.out
      obtain ⟨q0, q1, q2, q3⟩ := boxL_cells HX2.out
      go_wp2_with fail
      refine (HS.out _).mono ?_
      rintro e w3 ⟨rfl, hB⟩
      have HB3 := Lib.hid (HB2.out.trans (hB.mono HB2.out.size))
      clear hB p0 p1 p2 p3 q0 q1 q2 q3
      go_wp2_with fail
      go_ret
      exact ⟨rfl, HB3.out⟩
  · have n1 : (nrC l m != 0) = true := by simpa using hz
    have n2 : (nrC l m == 0) = false := by simpa using hz
    clear hz
    generalize nrC l m = q at *
    generalize nrB l m = A at *
    generalize nrB m l = B at *
    go_enter Try.func3, Try.ntmps3
    rw [hW0] at x0 x1 x2 x3 y0 y1 y2 y3
    go_wp2_with fail
    rw [← hW0]
    clear hW0 x0 x1 x2 x3 y0 y1 y2 y3
    refine (HN1.out _).mono ?_
    rintro e w1 ⟨rfl, hB⟩
    have HX1 := Lib.hid (hp_below HX1.out hB (hp_lt HX1.out))
    have HX2 := Lib.hid (hp_below HX2.out hB (hp_lt HX2.out))
    have HB1 := Lib.hid (HBw.out.trans (hB.mono HBw.out.size))
    clear hB
    obtain ⟨p0, p1, p2, p3⟩ := boxL_cells HX1.out
    obtain ⟨q0, q1, q2, q3⟩ := boxL_cells HX2.out
    go_wp2_with fail
    clear p0 p1 p2 p3 q0 q1 q2 q3
    refine (HN2.out _).mono ?_
    rintro e w2 ⟨rfl, hB⟩
    have HX1 := Lib.hid (hp_below HX1.out hB (hp_lt HX1.out))
    have HX2 := Lib.hid (hp_below HX2.out hB (hp_lt HX2.out))
    have HB2 := Lib.hid (HB1.out.trans (hB.mono HB1.out.size))
    clear hB
    obtain ⟨p0, p1, p2, p3⟩ := boxL_cells HX1.out
    obtain ⟨q0, q1, q2, q3⟩ := boxL_cells HX2.out
    go_wp2_with fail
    refine (HS.out _).mono ?_
    rintro e w3 ⟨rfl, hB⟩
    have HB3 := Lib.hid (HB2.out.trans (hB.mono HB2.out.size))
    clear hB p0 p1 p2 p3 q0 q1 q2 q3
    go_wp2_with fail
    go_ret
    exact ⟨rfl, HB3.out⟩

end Go.Proofs.Ytfmheeboogffeaa

/- SeekAlls: Templates of seek, the walk. -/
set_option linter.unusedVariables false
set_option linter.unusedSimpArgs false
namespace Go.Proofs.Ytfmheeboogffeaa
open Go.RowKit Tinker

set_option maxRecDepth 100000 in
set_option maxHeartbeats 2000000 in
theorem templatesE_any (l : L) (ww : World) : Calls Try.prog 11 #[lv l] ww (GivesLinesE (if isLn l = true then tmpl l else []) (vl l) ww) := by
  have HV := Lib.hid (fun w => validateLine_any l w)
  obtain ⟨W0, hW0⟩ : ∃ W, W = ww.alloc (.cells (lV l) 23) := ⟨_, rfl⟩
  have hb : Below ww.heap.size ww W0 := by rw [hW0]; exact (Below.refl _ _).alloc (Nat.le_refl _) _
  have h1 : W0.heap[ww.heap.size]? = some (.cells (lV l) 23 (0, 0)) := by rw [hW0]; exact hp_new rfl
  obtain ⟨x0, x1, x2, x3⟩ := boxL_cells h1
  have HBw := Lib.hid hb
  have HX1 := Lib.hid h1
  clear hb h1
  cases hv : isLn l
  · rw [show vl l = 1 by unfold vl; rw [hv]; rfl] at HV ⊢
    rw [if_neg (by decide)]
    unfold lv at HV ⊢
    unfold lV at hW0
    clear hv
    go_enter Try.func11, Try.ntmps11
    rw [hW0] at x0 x1 x2 x3
    go_wp2_with fail
    rw [← hW0]
    clear hW0 x0 x1 x2 x3
    refine (HV.out _).mono ?_
    rintro e w1 ⟨rfl, hB⟩
    have HB1 := Lib.hid (HBw.out.trans (hB.mono HBw.out.size))
    clear hB
    go_wp2_with fail
    go_ret2
    exact givesLinesE_nil HB1.out
  · have HT := Lib.hid (fun w => templates_any l w hv)
    rw [show vl l = 0 by unfold vl; rw [hv]; rfl] at HV ⊢
    rw [if_pos rfl]
    unfold lv at HV HT ⊢
    unfold lV at hW0
    clear hv
    generalize tmpl l = T at *
    go_enter Try.func11, Try.ntmps11
    rw [hW0] at x0 x1 x2 x3
    go_wp2_with fail
    rw [← hW0]
    clear hW0 x0 x1 x2 x3
    refine (HV.out _).mono ?_
    rintro e w1 ⟨rfl, hB⟩
    have HX1 := Lib.hid (hp_below HX1.out hB (hp_lt HX1.out))
    have HB1 := Lib.hid (HBw.out.trans (hB.mono HBw.out.size))
    clear hB
    obtain ⟨x0, x1, x2, x3⟩ := boxL_cells HX1.out
    go_wp2_with fail
    refine (HT.out _).mono ?_
    rintro e w2 ⟨aq, cq, rfl, hq, hB⟩
    have HO := Lib.hid (own_mono hq HB1.out.size)
    have HB2 := Lib.hid (HB1.out.trans (hB.mono HB1.out.size))
    clear hB hq
    go_wp2_with fail
    go_ret2
    exact ⟨_, _, rfl, HO.out, HB2.out⟩

theorem setv_same {α : Type} {l : List α} {i : Nat} {v : α} (h : l[i]? = some v) : l.set i v = l := by
  apply List.ext_getElem?
  intro j
  rw [List.getElem?_set]
  split
  · rename_i e
    subst e
    split
    · exact h.symm
    · rename_i hn
      rw [List.getElem?_eq_none (by omega)] at h
      cases h
  · rfl
theorem lc_setOp {ds : List L} {k : Nat} {x : L} (hx : ds[k]? = some x) (n : Int) : (lc ds).set (k * 4) (.int .i64 n) = lc (ds.set k ⟨n, x.to, x.a, x.b⟩) := by
  have hk := (List.getElem?_eq_some_iff.1 hx).1
  obtain ⟨g0, g1, g2, g3⟩ := lc_get hx
  rw [lc_set _ hk]
  have e1 : ((lc ds).set (k * 4) (.int .i64 n))[k * 4 + 1]? = some (.int .i64 x.to) := by rw [List.getElem?_set_ne (by omega)]; exact g1
  have e2 : ((lc ds).set (k * 4) (.int .i64 n))[k * 4 + 2]? = some (.int .i64 x.a) := by rw [List.getElem?_set_ne (by omega)]; exact g2
  have e3 : ((lc ds).set (k * 4) (.int .i64 n))[k * 4 + 3]? = some (.int .i64 x.b) := by rw [List.getElem?_set_ne (by omega)]; exact g3
  show _ = ((((lc ds).set (k * 4) (.int .i64 n)).set (k * 4 + 1) (.int .i64 x.to)).set (k * 4 + 2) (.int .i64 x.a)).set (k * 4 + 3) (.int .i64 x.b)
  rw [setv_same e1]
  rw [setv_same e2]
  rw [setv_same e3]
theorem any_take {T : List L} {f : L → Bool} {k : Nat} {x : L} (hx : T[k]? = some x) : (T.take (k + 1)).any f = ((T.take k).any f || f x) := by
  rw [take_snoc hx, List.any_append]
  simp
theorem allL_len : allL.length ≤ 1000 ∧ 0 < allL.length := by
  have : allL.length = 477 := by kernel_rfl
  omega
theorem allL_any (l : L) : allL.any (fun x => eqL x l) = isLn l := by
  rw [Bool.eq_iff_iff, ← allL_mem]
  exact hasL_iff

set_option maxRecDepth 100000 in
set_option maxHeartbeats 8000000 in
theorem seekAlls_walk (l : L) (ww : World) : Calls Try.prog 4 #[lv l] ww fun e w' => e = .returned (.bool true) ∧ Below ww.heap.size ww w' := by
  have HA := Lib.hid (fun w => sAll_any w)
  have HD := Lib.hid (fun w => rAll_any w)
  have HS := Lib.hid (fun a b c d w h1 h2 => sameL4_self allL.length a b c d allL w rfl h1 h2 allL_len.1)
  have HT := Lib.hid (fun w => templatesE_any l w)
  have HK := Lib.hid (fun w => same5_any w)
  have HIn := Lib.hid (allL_any l)
  have hln := allL_len.1
  have hl0 := allL_len.2
  generalize allL = T at *
  obtain ⟨W0, hW0⟩ : ∃ W, W = ww.alloc (.cells (lV l) 23) := ⟨_, rfl⟩
  have hb : Below ww.heap.size ww W0 := by rw [hW0]; exact (Below.refl _ _).alloc (Nat.le_refl _) _
  have h1 : W0.heap[ww.heap.size]? = some (.cells (lV l) 23 (0, 0)) := by rw [hW0]; exact hp_new rfl
  have HBw := Lib.hid hb
  have HX1 := Lib.hid h1
  clear hb h1
  unfold lv at HT ⊢
  unfold lV at hW0
  go_enter Try.func4, Try.ntmps4
  go_wp2_with fail
  rw [← hW0]
  clear hW0
  refine (HA.out _).mono ?_
  rintro e w1 ⟨a1, c1, rfl, hq, hB⟩
  have HO := Lib.hid hq
  have HB := Lib.hid hB
  clear hq hB
  go_wp2_with fail
  refine (HD.out _).mono ?_
  rintro e w2 ⟨a2, c2, rfl, hq, hB⟩
  have HO := Lib.hid (own_below HO.out hB (Nat.le_refl _))
  have HB := Lib.hid (HB.out.trans (hB.mono HB.out.size))
  have HL2 := Lib.hid (lines_of_own hq).1
  clear hq hB
  go_wp2_with fail
  refine (HS.out _ _ _ _ _ (lines_of_own HO.out).1 HL2.out).mono ?_
  rintro e w3 ⟨rfl, hB⟩
  have HO := Lib.hid (own_below HO.out hB (Nat.le_refl _))
  have HB := Lib.hid (HB.out.trans (hB.mono HB.out.size))
  clear hB HL2
  obtain ⟨g, rfl⟩ := own_form HO.out (by omega)
  have hgb := own_base' HO.out
  go_wp2_with fail
  go_loopw [4, 5] (fun s4 s5 wr => ∃ (k : Nat) (ds : List L), k ≤ T.length ∧ s4 = .bool ((T.take k).any fun x => eqL x l) ∧ s5 = .int .i64 k ∧ ds.length = T.length ∧ ds.drop k = T.drop k ∧ wr.ownsRow W0.heap.size 23 4 (.slice (some ⟨g, 0, none⟩) T.length c1) T.length (lc ds) ∧ Below W0.heap.size W0 wr) (fun _ s5 _ => T.length - (intOf s5).toNat)
  case atStart => exact ⟨0, T, Nat.zero_le _, by rfl, rfl, rfl, rfl, HO.out, HB.out⟩
  case round =>
    clear HO HB
    obtain ⟨k, ds, hk, rfl, rfl, hdl, hdr, hO, hB⟩ := hrel
    have HO := Lib.hid hO
    have HB := Lib.hid hB
    have HDL := Lib.hid hdl
    have HDR := Lib.hid hdr
    clear hO hB hdl hdr
    by_cases hlt : k < T.length
    · have hlt1 : decide ((k : Int) < (T.length : Int)) = true := decide_eq_true (by omega)
      obtain ⟨x, hx⟩ := get_of_lt hlt
      have hdx : ds[k]? = some x := by
        have h9 : (ds.drop k)[0]? = (T.drop k)[0]? := by rw [HDR.out]
        rw [List.getElem?_drop, List.getElem?_drop] at h9
        simpa [hx] using h9
      obtain ⟨b, off, x', eb, hlb, hx', d0, d1, d2, d3⟩ := (lines_of_own HO.out).1.at_ (k := k) (by rw [HDL.out]; exact hlt)
      injection eb with eb
      injection eb with e1 e2 e3
      subst e1
      subst e2
      rw [hdx] at hx'
      injection hx' with hx'
      subst hx'
      rw [Nat.zero_add] at d0 d1 d2 d3
      obtain ⟨x0, x1, x2, x3⟩ := boxL_cells (hp_below HX1.out HB.out (hp_lt HX1.out))
      have HFn := Lib.hid (any_take (f := fun x => eqL x l) hx)
      have HOS := Lib.hid (show ∀ W : World, W.ownsRow W0.heap.size 23 4 (.slice (some ⟨g, 0, none⟩) T.length c1) T.length (lc ds) → (W.setCell ⟨g, k * 4, none⟩ (.int .i64 (-1))).ownsRow W0.heap.size 23 4 (.slice (some ⟨g, 0, none⟩) T.length c1) T.length (lc (ds.set k ⟨-1, x.to, x.a, x.b⟩)) from fun W h => by rw [← lc_setOp hdx]; exact own_setCell h _ _)
      have HDn := Lib.hid (show (ds.set k ⟨-1, x.to, x.a, x.b⟩).drop (k + 1) = T.drop (k + 1) by rw [List.drop_set_of_lt (by omega), ← List.drop_drop, HDR.out, List.drop_drop])
      have HDLn := Lib.hid (show (ds.set k ⟨-1, x.to, x.a, x.b⟩).length = T.length by rw [List.length_set]; exact HDL.out)
      have r1 := run_eqL x l
      have f0 := own_free HO.out (k * 4)
      clear hx hdx
      cases hf : (T.take k).any (fun x => eqL x l)
      · cases hq : eqL x l
        · rw [hq] at r1
          have HV := Lib.hid (show (T.take (k + 1)).any (fun x => eqL x l) = false by rw [HFn.out, hf, hq]; rfl)
          clear hf hq
          go_wp2_with fail
          go_quiet (fail)
          have f1 : (wr.drewN nq).frozen? ⟨g, k * 4, none⟩ = false := f0
          have HO1 := Lib.hid (show (wr.drewN nq).ownsRow W0.heap.size 23 4 (.slice (some ⟨g, 0, none⟩) T.length c1) T.length (lc ds) from HO.out)
          have HB1 := Lib.hid (below_drewN7 HB.out nq)
          have k0 : (wr.drewN nq).cell? ⟨g, k * 4, none⟩ = some (.int .i64 x.op) := d0
          clear d0 d1 d2 d3 x0 x1 x2 x3 f0 r1 HO HB
          generalize wr.drewN nq = W2 at *
          go_wp2_with fail
          go_roundw
          case rel => exact ⟨k + 1, _, by omega, by rw [HV.out], by go_num, HDLn.out, HDn.out, HOS.out _ HO1.out, HB1.out.setCell (p := ⟨g, k * 4, none⟩) hgb _⟩
          case measure => simp [intOf]; omega
        · rw [hq] at r1
          have HV := Lib.hid (show (T.take (k + 1)).any (fun x => eqL x l) = true by rw [HFn.out, hf, hq]; rfl)
          clear hf hq
          go_wp2_with fail
          go_quiet (fail)
          have f1 : (wr.drewN nq).frozen? ⟨g, k * 4, none⟩ = false := f0
          have HO1 := Lib.hid (show (wr.drewN nq).ownsRow W0.heap.size 23 4 (.slice (some ⟨g, 0, none⟩) T.length c1) T.length (lc ds) from HO.out)
          have HB1 := Lib.hid (below_drewN7 HB.out nq)
          have k0 : (wr.drewN nq).cell? ⟨g, k * 4, none⟩ = some (.int .i64 x.op) := d0
          clear d0 d1 d2 d3 x0 x1 x2 x3 f0 r1 HO HB
          generalize wr.drewN nq = W2 at *
          go_wp2_with fail
          go_roundw
          case rel => exact ⟨k + 1, _, by omega, by rw [HV.out], by go_num, HDLn.out, HDn.out, HOS.out _ HO1.out, HB1.out.setCell (p := ⟨g, k * 4, none⟩) hgb _⟩
          case measure => simp [intOf]; omega
      · have HV := Lib.hid (show (T.take (k + 1)).any (fun x => eqL x l) = true by rw [HFn.out, hf]; rfl)
        clear hf
        go_wp2_with fail
        go_quiet (fail)
        have f1 : (wr.drewN nq).frozen? ⟨g, k * 4, none⟩ = false := f0
        have HO1 := Lib.hid (show (wr.drewN nq).ownsRow W0.heap.size 23 4 (.slice (some ⟨g, 0, none⟩) T.length c1) T.length (lc ds) from HO.out)
        have HB1 := Lib.hid (below_drewN7 HB.out nq)
        have k0 : (wr.drewN nq).cell? ⟨g, k * 4, none⟩ = some (.int .i64 x.op) := d0
        clear d0 d1 d2 d3 x0 x1 x2 x3 f0 r1 HO HB
        generalize wr.drewN nq = W2 at *
        go_wp2_with fail
        go_roundw
        case rel => exact ⟨k + 1, _, by omega, by rw [HV.out], by go_num, HDLn.out, HDn.out, HOS.out _ HO1.out, HB1.out.setCell (p := ⟨g, k * 4, none⟩) hgb _⟩
        case measure => simp [intOf]; omega
    · obtain rfl : k = T.length := by omega
      have hlt1 : decide ((T.length : Int) < (T.length : Int)) = false := decide_eq_false (by omega)
      have hin : (T.take T.length).any (fun x => eqL x l) = isLn l := by rw [List.take_length]; exact HIn.out
      rw [hin]
      obtain ⟨x0, x1, x2, x3⟩ := boxL_cells (hp_below HX1.out HB.out (hp_lt HX1.out))
      have HVL := Lib.hid (show vl l = if isLn l = true then 0 else 1 from rfl)
      clear hin HO HDL HDR HIn
      cases hv : isLn l
      · rw [hv, if_neg (by decide)] at HVL
        rw [hv, if_neg (by decide), HVL.out] at HT
        clear hv HVL
        go_wp2_with fail
        clear x0 x1 x2 x3
        refine (HT.out _).mono ?_
        rintro e w5 ⟨a5, c5, rfl, hq, hB⟩
        have HB5 := Lib.hid (HB.out.trans (hB.mono HB.out.size))
        clear hB hq
        go_wp2_with fail
        refine (HA.out _).mono ?_
        rintro e w6 ⟨a6, c6, rfl, hq, hB⟩
        have HL6 := Lib.hid (lines_of_own hq).1
        have HB6 := Lib.hid (HB5.out.trans (hB.mono HB5.out.size))
        clear hB hq
        go_wp2_with fail
        refine (HD.out _).mono ?_
        rintro e w7 ⟨a7, c7, rfl, hq, hB⟩
        have HL6 := Lib.hid (HL6.out.below hB (Nat.le_refl _))
        have HL7 := Lib.hid (lines_of_own hq).1
        have HB7 := Lib.hid (HB6.out.trans (hB.mono HB6.out.size))
        clear hB hq
        go_wp2_with fail
        refine (HS.out _ _ _ _ _ HL6.out HL7.out).mono ?_
        rintro e w8 ⟨rfl, hB⟩
        have HB8 := Lib.hid (HB7.out.trans (hB.mono HB7.out.size))
        clear hB HL6 HL7
        go_wp2_with fail
        refine (HK.out _).mono ?_
        rintro e w9 ⟨rfl, hB⟩
        have HB9 := Lib.hid (HB8.out.trans (hB.mono HB8.out.size))
        clear hB
        go_wp2_with fail
        go_ret
        exact ⟨rfl, HBw.out.trans (HB9.out.mono HBw.out.size)⟩
      · rw [hv, if_pos rfl] at HVL
        rw [hv, if_pos rfl, HVL.out] at HT
        clear hv HVL
        go_wp2_with fail
        clear x0 x1 x2 x3
        refine (HT.out _).mono ?_
        rintro e w5 ⟨a5, c5, rfl, hq, hB⟩
        have HB5 := Lib.hid (HB.out.trans (hB.mono HB.out.size))
        clear hB hq
        go_wp2_with fail
        refine (HA.out _).mono ?_
        rintro e w6 ⟨a6, c6, rfl, hq, hB⟩
        have HL6 := Lib.hid (lines_of_own hq).1
        have HB6 := Lib.hid (HB5.out.trans (hB.mono HB5.out.size))
        clear hB hq
        go_wp2_with fail
        refine (HD.out _).mono ?_
        rintro e w7 ⟨a7, c7, rfl, hq, hB⟩
        have HL6 := Lib.hid (HL6.out.below hB (Nat.le_refl _))
        have HL7 := Lib.hid (lines_of_own hq).1
        have HB7 := Lib.hid (HB6.out.trans (hB.mono HB6.out.size))
        clear hB hq
        go_wp2_with fail
        refine (HS.out _ _ _ _ _ HL6.out HL7.out).mono ?_
        rintro e w8 ⟨rfl, hB⟩
        have HB8 := Lib.hid (HB7.out.trans (hB.mono HB7.out.size))
        clear hB HL6 HL7
        go_wp2_with fail
        refine (HK.out _).mono ?_
        rintro e w9 ⟨rfl, hB⟩
        have HB9 := Lib.hid (HB8.out.trans (hB.mono HB8.out.size))
        clear hB
        go_wp2_with fail
        go_ret
        exact ⟨rfl, HBw.out.trans (HB9.out.mono HBw.out.size)⟩

end Go.Proofs.Ytfmheeboogffeaa
