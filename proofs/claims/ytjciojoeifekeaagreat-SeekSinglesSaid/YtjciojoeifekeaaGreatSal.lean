/- Several texts in one. -/
import Derived.Test.YtjciojoeifekeaaGreatNear
import Derived.Test.YtjciojoeifekeaaGreatSkC
import Derived.BigQuiet
/- SeekNears: the walk. -/
set_option linter.unusedVariables false
set_option linter.unusedSimpArgs false
namespace Go.Proofs.YtjciojoeifekeaaGreat
open Go.RowKit Tinker

theorem same_1 : nrB ⟨1, 0, 3, 0⟩ ⟨1, 2, 3, 0⟩ = true ∧ nrC ⟨1, 0, 3, 0⟩ ⟨1, 2, 3, 0⟩ = 0 := by decide +kernel
theorem same_2 : nrB ⟨1, 0, 3, 0⟩ ⟨1, 0, 5, 0⟩ = false ∧ nrC ⟨1, 0, 3, 0⟩ ⟨1, 0, 5, 0⟩ = 0 := by decide +kernel
set_option maxHeartbeats 1000000 in
theorem same5_any (w : World) : Calls Tryz.prog 16 #[] w fun e w' => e = .returned (.bool true) ∧ Below w.heap.size w w' := by
  have H1 := Lib.hid (fun w => near_any ⟨1, 0, 3, 0⟩ ⟨1, 2, 3, 0⟩ w)
  have H2 := Lib.hid (fun w => near_any ⟨1, 0, 3, 0⟩ ⟨1, 0, 5, 0⟩ w)
  rw [same_1.1, same_1.2] at H1
  rw [same_2.1, same_2.2] at H2
  unfold lv at H1 H2
  go_enter Tryz.func16, Tryz.ntmps16
  go_wp2_with fail
  refine (H1.out _).mono ?_
  rintro e w1 ⟨rfl, hB⟩
  have HB1 := Lib.hid hB
  clear hB
  go_wp2_with fail
  refine (H2.out _).mono ?_
  rintro e w2 ⟨rfl, hB⟩
  have HB2 := Lib.hid (HB1.out.trans (hB.mono HB1.out.size))
  clear hB
  go_wp2_with fail
  go_ret
  exact ⟨rfl, HB2.out⟩

theorem nrC_comm (l m : L) : nrC m l = nrC l m := by
  unfold nrC vl fe
  cases isLn l <;> cases isLn m <;> rfl
theorem eqI_comm (a b : Int) : (a == b) = (b == a) := by rw [Bool.eq_iff_iff]; simp; exact ⟨fun h => h.symm, fun h => h.symm⟩
theorem neI_comm (a b : Int) : (a != b) = (b != a) := by unfold bne; rw [eqI_comm]
theorem nearB_comm {l m : L} (h1 : l.op ≠ 0) (h2 : m.op ≠ 0) : nearB m l = nearB l m := by
  have z1 : (l.op == 0) = false := by simpa using h1
  have z2 : (m.op == 0) = false := by simpa using h2
  unfold nearB
  rw [eqL_comm m l, dsN_comm m l, z1, z2]
  cases eqL l m
  · by_cases he : m.op = l.op
    · have e1 : (m.op != l.op) = false := by simpa using he
      have e2 : (l.op != m.op) = false := by simpa using he.symm
      rw [e1, e2, he, eqI_comm m.to l.to, eqI_comm m.a l.b, eqI_comm m.b l.a, Bool.and_comm (l.b == m.a) (l.a == m.b), neI_comm m.a l.a, neI_comm m.to l.to, Bool.or_comm (m.a - l.a == 1), Bool.or_comm (m.to - l.to == 1)]
    · have e1 : (m.op != l.op) = true := by simpa using he
      have e2 : (l.op != m.op) = true := by simpa using fun h : l.op = m.op => he h.symm
      rw [e1, e2]
      cases mixB l.op <;> cases mixB m.op <;> simp
  · rfl
theorem nrB_0 {l m : L} (h : l.op = 0) : nrB l m = false := by
  unfold nrB nearB
  rw [h]
  simp

end Go.Proofs.YtjciojoeifekeaaGreat

/- SeekAlls: Templates of seek, the walk. -/
set_option linter.unusedVariables false
set_option linter.unusedSimpArgs false
namespace Go.Proofs.YtjciojoeifekeaaGreat
open Go.RowKit Tinker

set_option maxRecDepth 100000 in
set_option maxHeartbeats 2000000 in
theorem templatesE_any (l : L) (ww : World) : Calls Tryz.prog 8 #[lv l] ww (GivesLinesE (if isLn l = true then tmpl l else []) (vl l) ww) := by
  have HV := Lib.hid (fun w => validateLine_any l w)
  obtain ⟨W0, hW0⟩ : ∃ W, W = ww.alloc (.cells (lV l) 23) := ⟨_, rfl⟩
  have hb : Below ww.heap.size ww W0 := by rw [hW0]; exact (Below.refl _ _).alloc (Nat.le_refl _) _
  have h1 : W0.heap[ww.heap.size]? = some (.cells (lV l) 23 (0, 0)) := by rw [hW0]; exact hp_new rfl
  obtain ⟨x0, x1, x2, x3⟩ := boxL_cells h1
  have HBw := Lib.hid hb
  have HX1 := Lib.hid h1
  clear hb h1
  cases hv : isLn l
  · rw [show vl l = 1 by unfold vl; rw [hv]; rfl] at HV ⊢
    rw [if_neg (by decide)]
    unfold lv at HV ⊢
    unfold lV at hW0
    clear hv
    go_enter Tryz.func8, Tryz.ntmps8
    rw [hW0] at x0 x1 x2 x3
    go_wp2_with fail
    rw [← hW0]
    clear hW0 x0 x1 x2 x3
    refine (HV.out _).mono ?_
    rintro e w1 ⟨rfl, hB⟩
    have HB1 := Lib.hid (HBw.out.trans (hB.mono HBw.out.size))
    clear hB
    go_wp2_with fail
    go_ret2
    exact givesLinesE_nil HB1.out
  · have HT := Lib.hid (fun w => templates_any l w hv)
    rw [show vl l = 0 by unfold vl; rw [hv]; rfl] at HV ⊢
    rw [if_pos rfl]
    unfold lv at HV HT ⊢
    unfold lV at hW0
    clear hv
    generalize tmpl l = T at *
    go_enter Tryz.func8, Tryz.ntmps8
    rw [hW0] at x0 x1 x2 x3
    go_wp2_with fail
    rw [← hW0]
    clear hW0 x0 x1 x2 x3
    refine (HV.out _).mono ?_
    rintro e w1 ⟨rfl, hB⟩
    have HX1 := Lib.hid (hp_below HX1.out hB (hp_lt HX1.out))
    have HB1 := Lib.hid (HBw.out.trans (hB.mono HBw.out.size))
    clear hB
    obtain ⟨x0, x1, x2, x3⟩ := boxL_cells HX1.out
    go_wp2_with fail
    refine (HT.out _).mono ?_
    rintro e w2 ⟨aq, cq, rfl, hq, hB⟩
    have HO := Lib.hid (own_mono hq HB1.out.size)
    have HB2 := Lib.hid (HB1.out.trans (hB.mono HB1.out.size))
    clear hB hq
    go_wp2_with fail
    go_ret2
    exact ⟨_, _, rfl, HO.out, HB2.out⟩

theorem setv_same {α : Type} {l : List α} {i : Nat} {v : α} (h : l[i]? = some v) : l.set i v = l := by
  apply List.ext_getElem?
  intro j
  rw [List.getElem?_set]
  split
  · rename_i e
    subst e
    split
    · exact h.symm
    · rename_i hn
      rw [List.getElem?_eq_none (by omega)] at h
      cases h
  · rfl
theorem lc_setOp {ds : List L} {k : Nat} {x : L} (hx : ds[k]? = some x) (n : Int) : (lc ds).set (k * 4) (.int .i64 n) = lc (ds.set k ⟨n, x.to, x.a, x.b⟩) := by
  have hk := (List.getElem?_eq_some_iff.1 hx).1
  obtain ⟨g0, g1, g2, g3⟩ := lc_get hx
  rw [lc_set _ hk]
  have e1 : ((lc ds).set (k * 4) (.int .i64 n))[k * 4 + 1]? = some (.int .i64 x.to) := by rw [List.getElem?_set_ne (by omega)]; exact g1
  have e2 : ((lc ds).set (k * 4) (.int .i64 n))[k * 4 + 2]? = some (.int .i64 x.a) := by rw [List.getElem?_set_ne (by omega)]; exact g2
  have e3 : ((lc ds).set (k * 4) (.int .i64 n))[k * 4 + 3]? = some (.int .i64 x.b) := by rw [List.getElem?_set_ne (by omega)]; exact g3
  show _ = ((((lc ds).set (k * 4) (.int .i64 n)).set (k * 4 + 1) (.int .i64 x.to)).set (k * 4 + 2) (.int .i64 x.a)).set (k * 4 + 3) (.int .i64 x.b)
  rw [setv_same e1]
  rw [setv_same e2]
  rw [setv_same e3]
theorem any_take {T : List L} {f : L → Bool} {k : Nat} {x : L} (hx : T[k]? = some x) : (T.take (k + 1)).any f = ((T.take k).any f || f x) := by
  rw [take_snoc hx, List.any_append]
  simp
theorem allL_len : allL.length ≤ 1000 ∧ 0 < allL.length := by
  have : allL.length = 477 := by kernel_rfl
  omega
theorem allL_any (l : L) : allL.any (fun x => eqL x l) = isLn l := by
  rw [Bool.eq_iff_iff, ← allL_mem]
  exact hasL_iff

end Go.Proofs.YtjciojoeifekeaaGreat
