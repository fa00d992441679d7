/- Several texts in one. -/
import Derived.Test.YtfclfmloceddfaaGreatSkA
import Derived.Test.YtfclfmloceddfaaGreatCnL
import Derived.Deep.RegionHeld
import Derived.Test.YtfclfmloceddfaaGreatFxR
import Derived.Test.YtfclfmloceddfaaGreatKnownT
import Derived.Test.YtfclfmloceddfaaGreatSkB
import Derived.Test.YtfclfmloceddfaaGreatSrc
import Derived.Test.YtfclfmloceddfaaGreatIndB
/- withTo, withA, withB, readsTwo of seek: contracts. -/
set_option linter.unusedVariables false
set_option linter.unusedSimpArgs false
namespace Go.Proofs.YtfclfmloceddfaaGreat
open Go.RowKit Tinker

set_option maxHeartbeats 1000000 in
theorem withA_any (l : L) (n : Int) (w : World) : Calls Tryz.prog 83 #[lv l, .int .i64 n] w fun e w' => e = .returned (lv ⟨l.op, l.to, n, l.b⟩) ∧ Below w.heap.size w w' := by
  unfold lv
  have HB := Lib.hid (show Below w.heap.size w ((w.alloc (.cells #[.int .i64 l.op, .int .i64 l.to, .int .i64 n, .int .i64 l.b] 42)).alloc (.cells #[.int .i64 l.op, .int .i64 l.to, .int .i64 n, .int .i64 l.b] 42)) from ((Below.refl _ _).alloc (Nat.le_refl _) _).alloc (by simp) _)
  have HN := Lib.hid (show ((w.alloc (.cells #[.int .i64 l.op, .int .i64 l.to, .int .i64 n, .int .i64 l.b] 42)).alloc (.cells #[.int .i64 l.op, .int .i64 l.to, .int .i64 n, .int .i64 l.b] 42)).heap[w.heap.size + 1]? = some (.cells #[.int .i64 l.op, .int .i64 l.to, .int .i64 n, .int .i64 l.b] 42 (0, 0)) from hp_new (by simp))
  go_enter Tryz.func83, Tryz.ntmps83
  go_wp2_with fail
  refine bodyPost_ret (v := .agg #[.int .i64 l.op, .int .i64 l.to, .int .i64 n, .int .i64 l.b]) ?_ rfl ⟨rfl, HB.out⟩
  exact results_cell_row (p := 4) (ty := 42) rfl _ _ (w.heap.size + 1) 42 _ (0, 0) _ (by rfl) HN.out Tryz.underlying42 rfl (by kernel_rfl)

set_option maxHeartbeats 1000000 in
theorem withTo_any (l : L) (n : Int) (w : World) : Calls Tryz.prog 107 #[lv l, .int .i64 n] w fun e w' => e = .returned (lv ⟨l.op, n, l.a, l.b⟩) ∧ Below w.heap.size w w' := by
  unfold lv
  have HB := Lib.hid (show Below w.heap.size w ((w.alloc (.cells #[.int .i64 l.op, .int .i64 n, .int .i64 l.a, .int .i64 l.b] 42)).alloc (.cells #[.int .i64 l.op, .int .i64 n, .int .i64 l.a, .int .i64 l.b] 42)) from ((Below.refl _ _).alloc (Nat.le_refl _) _).alloc (by simp) _)
  have HN := Lib.hid (show ((w.alloc (.cells #[.int .i64 l.op, .int .i64 n, .int .i64 l.a, .int .i64 l.b] 42)).alloc (.cells #[.int .i64 l.op, .int .i64 n, .int .i64 l.a, .int .i64 l.b] 42)).heap[w.heap.size + 1]? = some (.cells #[.int .i64 l.op, .int .i64 n, .int .i64 l.a, .int .i64 l.b] 42 (0, 0)) from hp_new (by simp))
  go_enter Tryz.func107, Tryz.ntmps107
  go_wp2_with fail
  refine bodyPost_ret (v := .agg #[.int .i64 l.op, .int .i64 n, .int .i64 l.a, .int .i64 l.b]) ?_ rfl ⟨rfl, HB.out⟩
  exact results_cell_row (p := 4) (ty := 42) rfl _ _ (w.heap.size + 1) 42 _ (0, 0) _ (by rfl) HN.out Tryz.underlying42 rfl (by kernel_rfl)

set_option maxHeartbeats 1000000 in
theorem withB_any (l : L) (n : Int) (w : World) : Calls Tryz.prog 82 #[lv l, .int .i64 n] w fun e w' => e = .returned (lv ⟨l.op, l.to, l.a, n⟩) ∧ Below w.heap.size w w' := by
  unfold lv
  have HB := Lib.hid (show Below w.heap.size w ((w.alloc (.cells #[.int .i64 l.op, .int .i64 l.to, .int .i64 l.a, .int .i64 n] 42)).alloc (.cells #[.int .i64 l.op, .int .i64 l.to, .int .i64 l.a, .int .i64 n] 42)) from ((Below.refl _ _).alloc (Nat.le_refl _) _).alloc (by simp) _)
  have HN := Lib.hid (show ((w.alloc (.cells #[.int .i64 l.op, .int .i64 l.to, .int .i64 l.a, .int .i64 n] 42)).alloc (.cells #[.int .i64 l.op, .int .i64 l.to, .int .i64 l.a, .int .i64 n] 42)).heap[w.heap.size + 1]? = some (.cells #[.int .i64 l.op, .int .i64 l.to, .int .i64 l.a, .int .i64 n] 42 (0, 0)) from hp_new (by simp))
  go_enter Tryz.func82, Tryz.ntmps82
  go_wp2_with fail
  refine bodyPost_ret (v := .agg #[.int .i64 l.op, .int .i64 l.to, .int .i64 l.a, .int .i64 n]) ?_ rfl ⟨rfl, HB.out⟩
  exact results_cell_row (p := 4) (ty := 42) rfl _ _ (w.heap.size + 1) 42 _ (0, 0) _ (by rfl) HN.out Tryz.underlying42 rfl (by kernel_rfl)

set_option maxHeartbeats 1000000 in
theorem readsTwo_any (l : L) (w : World) : Calls Tryz.prog 81 #[lv l] w fun e w' => e = .returned (.bool (two l)) ∧ Below w.heap.size w w' := by
  have HB := Lib.hid (show Below w.heap.size w (w.alloc (.cells #[.int .i64 l.op, .int .i64 l.to, .int .i64 l.a, .int .i64 l.b] 42)) from (Below.refl _ _).alloc (Nat.le_refl _) _)
  unfold lv
  by_cases h3 : l.op = 3
  · have ht := Lib.hid (show two l = true by unfold two; rw [h3]; rfl)
    have e3 : (l.op == 3) = true := by simpa using h3
    clear h3
    go_enter Tryz.func81, Tryz.ntmps81
    go_wp2_with fail
    go_ret
    exact ⟨by rw [ht.out]; rfl, HB.out⟩
  have e3 : (l.op == 3) = false := by simpa using h3
  by_cases h4 : l.op = 4
  · have ht := Lib.hid (show two l = true by unfold two; rw [h4]; rfl)
    have e4 : (l.op == 4) = true := by simpa using h4
    clear h3 h4
    go_enter Tryz.func81, Tryz.ntmps81
    go_wp2_with fail
    go_ret
    exact ⟨by rw [ht.out]; rfl, HB.out⟩
  have e4 : (l.op == 4) = false := by simpa using h4
  by_cases h5 : l.op = 5
  · have ht := Lib.hid (show two l = true by unfold two; rw [h5]; rfl)
    have e5 : (l.op == 5) = true := by simpa using h5
    clear h3 h4 h5
    go_enter Tryz.func81, Tryz.ntmps81
    go_wp2_with fail
    go_ret
    exact ⟨by rw [ht.out]; rfl, HB.out⟩
  have e5 : (l.op == 5) = false := by simpa using h5
  by_cases h6 : l.op = 6
  · have ht := Lib.hid (show two l = true by unfold two; rw [h6]; rfl)
    have e6 : (l.op == 6) = true := by simpa using h6
    clear h3 h4 h5 h6
    go_enter Tryz.func81, Tryz.ntmps81
    go_wp2_with fail
    go_ret
    exact ⟨by rw [ht.out]; rfl, HB.out⟩
  have e6 : (l.op == 6) = false := by simpa using h6
  by_cases h7 : l.op = 7
  · have ht := Lib.hid (show two l = true by unfold two; rw [h7]; rfl)
    have e7 : (l.op == 7) = true := by simpa using h7
    clear h3 h4 h5 h6 h7
    go_enter Tryz.func81, Tryz.ntmps81
    go_wp2_with fail
    go_ret
    exact ⟨by rw [ht.out]; rfl, HB.out⟩
  have e7 : (l.op == 7) = false := by simpa using h7
  have ht := Lib.hid (show two l = false by
    unfold two
    rw [Bool.eq_false_iff]
    intro h
    rw [Bool.and_eq_true, decide_eq_true_eq, decide_eq_true_eq] at h
    omega)
  clear h3 h4 h5 h6 h7
  go_enter Tryz.func81, Tryz.ntmps81
  go_wp2_with fail
  go_ret
  exact ⟨by rw [ht.out]; rfl, HB.out⟩

end Go.Proofs.YtfclfmloceddfaaGreat

/- otherNumbers of seek: contract. -/
set_option linter.unusedVariables false
set_option linter.unusedSimpArgs false
namespace Go.Proofs.YtfclfmloceddfaaGreat
open Go.RowKit Go.Shelf Tinker
attribute [local go_sem] Oper.semAt_some

set_option maxRecDepth 100000 in
set_option maxHeartbeats 4000000 in
theorem otherNumbers_any (l : L) (ww : World) (hv : isLn l = true) : Calls Tryz.prog 78 #[lv l] ww (GivesLines (numsL l) ww) := by
  obtain ⟨⟨o1, o2⟩, ⟨t1, t2⟩, ⟨a1, a2⟩, ⟨b1, b2⟩⟩ := isLn_bd hv
  clear hv
  obtain ⟨W0, hW0⟩ : ∃ W, W = ww.alloc (.cells (lV l) 42) := ⟨_, rfl⟩
  have hb : Below ww.heap.size ww W0 := by rw [hW0]; exact (Below.refl _ _).alloc (Nat.le_refl _) _
  have h1 : W0.heap[ww.heap.size]? = some (.cells (lV l) 42 (0, 0)) := by rw [hW0]; exact hp_new rfl
  have hs : W0.heap.size = ww.heap.size + 1 := by rw [hW0]; simp
  obtain ⟨x0, x1, x2, x3⟩ := boxL_cells h1
  have HBd := Lib.hid (show Below (ww.heap.size + 1) W0 W0.drew from by rw [← hs]; exact ⟨rfl, rfl, rfl, Nat.le_refl _, fun _ _ => rfl⟩)
  have HBw := Lib.hid hb
  have HSz := Lib.hid hs
  clear hb h1 hs
  by_cases h1 : l.op = 1
  · have HE := Lib.hid (show numsL l = [⟨l.op, l.to, l.a - 1, l.b⟩, ⟨l.op, l.to, l.a + 1, l.b⟩] by unfold numsL; rw [if_pos h1])
    rw [HE.out]
    have e1 : (l.op == 1) = true := by simpa using h1
    clear h1
    have HC1 := Lib.hid (fun w => withA_any l (l.a - 1) w)
    have HC2 := Lib.hid (fun w => withA_any l (l.a + 1) w)
    have hw1 : IntKind.i64.wrap (l.a - 1) = l.a - 1 := IntWalk.i64_in _ (by omega)
    have hw2 : IntKind.i64.wrap (l.a + 1) = l.a + 1 := IntWalk.i64_in _ (by omega)
    unfold lv at HC1 HC2 ⊢
    go_enter Tryz.func78, Tryz.ntmps78
    unfold lV at hW0
    rw [hW0] at x0 x1 x2 x3
    go_wp2_with fail
    rw [← hW0] at x0 x1 x2 x3 ⊢
    clear hW0
    rename_i Qb Kb hKb
    refine wp_region_held_drew (S := (fun W2 => Below (ww.heap.size + 1) W0 W2)) (by kernel_rfl) ?_ (fun hHeld => ?_)
    · exact HBd.out
    generalize W0.drew = Wd at *
    refine wpAnyH_take (i := 0) (oi := ?oiq1) (v := (.agg #[.int .i64 l.op, .int .i64 l.to, .int .i64 l.a, .int .i64 l.b])) ?hiq1 (by kernel_rfl) (by kernel_rfl) (by kernel_rfl) ?hqq1 ?hyq1 hHeld ?restq1
    case hiq1 => exact rfl
    case hqq1 => exact fun _ _ _ h => h
    case hyq1 =>
      refine Or.inl ⟨by rfl, ?_⟩
      intro w hSw
      have m0 := (hSw.cell (p := ⟨ww.heap.size, 0, none⟩) (by show ww.heap.size < ww.heap.size + 1; omega)).trans x0
      have m1 := (hSw.cell (p := ⟨ww.heap.size, 1, none⟩) (by show ww.heap.size < ww.heap.size + 1; omega)).trans x1
      have m2 := (hSw.cell (p := ⟨ww.heap.size, 2, none⟩) (by show ww.heap.size < ww.heap.size + 1; omega)).trans x2
      have m3 := (hSw.cell (p := ⟨ww.heap.size, 3, none⟩) (by show ww.heap.size < ww.heap.size + 1; omega)).trans x3
      go_simp
      (try with_reducible rfl)
    try simp only [Act.put, List.getElem_toArray, List.getElem_cons_succ, List.getElem_cons_zero, List.setIfInBounds_toArray, List.set_cons_zero, List.set_cons_succ]
    refine wpAnyH_take (i := 1) (oi := ?oiq2) (v := (.pointer (some ⟨ww.heap.size, 2, none⟩))) ?hiq2 (by kernel_rfl) (by kernel_rfl) (by kernel_rfl) ?hqq2 ?hyq2 hHeld ?restq2
    case hiq2 => exact rfl
    case hqq2 => exact fun _ _ _ h => h
    case hyq2 =>
      refine Or.inl ⟨by rfl, ?_⟩
      intro w hSw
      go_simp
      (try with_reducible rfl)
    try simp only [Act.put, List.getElem_toArray, List.getElem_cons_succ, List.getElem_cons_zero, List.setIfInBounds_toArray, List.set_cons_zero, List.set_cons_succ]
    refine wpAnyH_take (i := 2) (oi := ?oiq3) (v := (.int .i64 l.a)) ?hiq3 (by kernel_rfl) (by kernel_rfl) (by kernel_rfl) ?hqq3 ?hyq3 hHeld ?restq3
    case hiq3 => exact rfl
    case hqq3 => exact fun _ _ _ h => h
    case hyq3 =>
      refine Or.inl ⟨by rfl, ?_⟩
      intro w hSw
      have m2 := (hSw.cell (p := ⟨ww.heap.size, 2, none⟩) (by show ww.heap.size < ww.heap.size + 1; omega)).trans x2
      go_simp
      (try with_reducible rfl)
    try simp only [Act.put, List.getElem_toArray, List.getElem_cons_succ, List.getElem_cons_zero, List.setIfInBounds_toArray, List.set_cons_zero, List.set_cons_succ]
    refine wpAnyH_take (i := 3) (oi := ?oiq4) (v := (.int .i64 (l.a - 1))) ?hiq4 (by kernel_rfl) (by kernel_rfl) (by kernel_rfl) ?hqq4 ?hyq4 hHeld ?restq4
    case hiq4 => exact rfl
    case hqq4 => exact fun _ _ _ h => h
    case hyq4 =>
      refine Or.inl ⟨by rfl, ?_⟩
      intro w hSw
      go_simp
      (try rw [hw1])
      (try rfl)
      (try with_reducible rfl)
    try simp only [Act.put, List.getElem_toArray, List.getElem_cons_succ, List.getElem_cons_zero, List.setIfInBounds_toArray, List.set_cons_zero, List.set_cons_succ]
    refine wpAnyH_take (i := 5) (oi := ?oiq5) (v := (.agg #[.int .i64 l.op, .int .i64 l.to, .int .i64 l.a, .int .i64 l.b])) ?hiq5 (by kernel_rfl) (by kernel_rfl) (by kernel_rfl) ?hqq5 ?hyq5 hHeld ?restq5
    case hiq5 => exact rfl
    case hqq5 => exact fun _ _ _ h => h
    case hyq5 =>
      refine Or.inl ⟨by rfl, ?_⟩
      intro w hSw
      have m0 := (hSw.cell (p := ⟨ww.heap.size, 0, none⟩) (by show ww.heap.size < ww.heap.size + 1; omega)).trans x0
      have m1 := (hSw.cell (p := ⟨ww.heap.size, 1, none⟩) (by show ww.heap.size < ww.heap.size + 1; omega)).trans x1
      have m2 := (hSw.cell (p := ⟨ww.heap.size, 2, none⟩) (by show ww.heap.size < ww.heap.size + 1; omega)).trans x2
      have m3 := (hSw.cell (p := ⟨ww.heap.size, 3, none⟩) (by show ww.heap.size < ww.heap.size + 1; omega)).trans x3
      go_simp
      (try with_reducible rfl)
    try simp only [Act.put, List.getElem_toArray, List.getElem_cons_succ, List.getElem_cons_zero, List.setIfInBounds_toArray, List.set_cons_zero, List.set_cons_succ]
    refine wpAnyH_take (i := 6) (oi := ?oiq6) (v := (.pointer (some ⟨ww.heap.size, 2, none⟩))) ?hiq6 (by kernel_rfl) (by kernel_rfl) (by kernel_rfl) ?hqq6 ?hyq6 hHeld ?restq6
    case hiq6 => exact rfl
    case hqq6 => exact fun _ _ _ h => h
    case hyq6 =>
      refine Or.inl ⟨by rfl, ?_⟩
      intro w hSw
      go_simp
      (try with_reducible rfl)
    try simp only [Act.put, List.getElem_toArray, List.getElem_cons_succ, List.getElem_cons_zero, List.setIfInBounds_toArray, List.set_cons_zero, List.set_cons_succ]
    refine wpAnyH_take (i := 7) (oi := ?oiq7) (v := (.int .i64 l.a)) ?hiq7 (by kernel_rfl) (by kernel_rfl) (by kernel_rfl) ?hqq7 ?hyq7 hHeld ?restq7
    case hiq7 => exact rfl
    case hqq7 => exact fun _ _ _ h => h
    case hyq7 =>
      refine Or.inl ⟨by rfl, ?_⟩
      intro w hSw
      have m2 := (hSw.cell (p := ⟨ww.heap.size, 2, none⟩) (by show ww.heap.size < ww.heap.size + 1; omega)).trans x2
      go_simp
      (try with_reducible rfl)
    try simp only [Act.put, List.getElem_toArray, List.getElem_cons_succ, List.getElem_cons_zero, List.setIfInBounds_toArray, List.set_cons_zero, List.set_cons_succ]
    refine wpAnyH_take (i := 8) (oi := ?oiq8) (v := (.int .i64 (l.a + 1))) ?hiq8 (by kernel_rfl) (by kernel_rfl) (by kernel_rfl) ?hqq8 ?hyq8 hHeld ?restq8
    case hiq8 => exact rfl
    case hqq8 => exact fun _ _ _ h => h
    case hyq8 =>
      refine Or.inl ⟨by rfl, ?_⟩
      intro w hSw
      go_simp
      (try rw [hw2])
      (try rfl)
      (try with_reducible rfl)
    try simp only [Act.put, List.getElem_toArray, List.getElem_cons_succ, List.getElem_cons_zero, List.setIfInBounds_toArray, List.set_cons_zero, List.set_cons_succ]
    refine wpAnyH_ready (rs := [4]) (by kernel_rfl) (by simp) ?_
    refine AllReadyH.cons (o := ?or12_4) ?hr12_4 ?kr12_4 AllReadyH.nil
    case hr12_4 => exact rfl
    case kr12_4 =>
      intro K hK
      go_simp
      refine (HC1.out _).mono ?_
      rintro e w3 ⟨rfl, hB⟩
      have HB1 := Lib.hid (HBd.out.trans (hB.mono (by have := HBd.out.size; have := HSz.out; omega)))
      clear hB
      refine hK.out _ _ HB1.out (fun hHeld => ?_)
      clear hK K
      try simp only [Act.put, List.getElem_toArray, List.getElem_cons_succ, List.getElem_cons_zero, List.setIfInBounds_toArray, List.set_cons_zero, List.set_cons_succ]
      refine wpAnyH_ready (rs := [9]) (by kernel_rfl) (by simp) ?_
      refine AllReadyH.cons (o := ?or11_9) ?hr11_9 ?kr11_9 AllReadyH.nil
      case hr11_9 => exact rfl
      case kr11_9 =>
        intro K hK
        go_simp
        refine (HC2.out _).mono ?_
        rintro e w4 ⟨rfl, hB⟩
        have HB2 := Lib.hid (HB1.out.trans (hB.mono (by have := HB1.out.size; have := HSz.out; omega)))
        clear hB
        refine hK.out _ _ HB2.out (fun hHeld => ?_)
        clear hK K
        try simp only [Act.put, List.getElem_toArray, List.getElem_cons_succ, List.getElem_cons_zero, List.setIfInBounds_toArray, List.set_cons_zero, List.set_cons_succ]
        refine wpAnyH_ready (rs := [10]) (by kernel_rfl) (by simp) ?_
        refine AllReadyH.cons (o := ?or10_10) ?hr10_10 ?kr10_10 AllReadyH.nil
        case hr10_10 => exact rfl
        case kr10_10 =>
          intro K hK
          go_simp
          have HB3 := Lib.hid (HB2.out.alloc (by have := HB2.out.size; have := HSz.out; omega) (.cells (lc [⟨l.op, l.to, l.a - 1, l.b⟩, ⟨l.op, l.to, l.a + 1, l.b⟩]).toArray 42))
          have HOw := Lib.hid (lines_own_of (base := ww.heap.size) (W := w4.alloc (.cells (lc [⟨l.op, l.to, l.a - 1, l.b⟩, ⟨l.op, l.to, l.a + 1, l.b⟩]).toArray 42)) (qs := [⟨l.op, l.to, l.a - 1, l.b⟩, ⟨l.op, l.to, l.a + 1, l.b⟩]) (n := 2) (hp_new rfl) (by have := HB2.out.size; have := HSz.out; omega) rfl (by decide))
          have HBz := Lib.hid (HBw.out.trans (HB3.out.mono (by omega)))
          refine hK.out _ _ HB3.out (fun hHeld => ?_)
          clear hK K
          try simp only [Act.put, List.getElem_toArray, List.getElem_cons_succ, List.getElem_cons_zero, List.setIfInBounds_toArray, List.set_cons_zero, List.set_cons_succ]
          refine wpAnyH_take (i := 11) (oi := ?oiq9) (v := ?vq9) ?hiq9 (by kernel_rfl) (by kernel_rfl) (by kernel_rfl) ?hqq9 ?hyq9 hHeld ?restq9
          case hiq9 => exact rfl
          case hqq9 => exact fun _ _ _ h => h
          case hyq9 =>
            refine Or.inl ⟨by rfl, ?_⟩
            intro w hSw
            go_simp
            (try with_reducible rfl)
          try simp only [Act.put, List.getElem_toArray, List.getElem_cons_succ, List.getElem_cons_zero, List.setIfInBounds_toArray, List.set_cons_zero, List.set_cons_succ]
          refine wpAnyH_done (by kernel_rfl) ?_ _
          clear hHeld
          refine hKb _ _ ?_
          go_wp2_with fail
          go_ret
          exact ⟨_, _, rfl, HOw.out, HBz.out⟩
  have e1 : (l.op == 1) = false := by simpa using h1
  by_cases h7 : l.op = 7
  · have HE := Lib.hid (show numsL l = [⟨l.op, l.to - 1, l.a, l.b⟩, ⟨l.op, l.to + 1, l.a, l.b⟩] by unfold numsL; rw [if_neg h1, if_pos h7])
    rw [HE.out]
    have e7 : (l.op == 7) = true := by simpa using h7
    clear h7 h1
    have HC1 := Lib.hid (fun w => withTo_any l (l.to - 1) w)
    have HC2 := Lib.hid (fun w => withTo_any l (l.to + 1) w)
    have hw1 : IntKind.i64.wrap (l.to - 1) = l.to - 1 := IntWalk.i64_in _ (by omega)
    have hw2 : IntKind.i64.wrap (l.to + 1) = l.to + 1 := IntWalk.i64_in _ (by omega)
    unfold lv at HC1 HC2 ⊢
    go_enter Tryz.func78, Tryz.ntmps78
    unfold lV at hW0
    rw [hW0] at x0 x1 x2 x3
    go_wp2_with fail
    rw [← hW0] at x0 x1 x2 x3 ⊢
    clear hW0
    rename_i Qb Kb hKb
    refine wp_region_held_drew (S := (fun W2 => Below (ww.heap.size + 1) W0 W2)) (by kernel_rfl) ?_ (fun hHeld => ?_)
    · exact HBd.out
    generalize W0.drew = Wd at *
    refine wpAnyH_take (i := 0) (oi := ?oiq13) (v := (.agg #[.int .i64 l.op, .int .i64 l.to, .int .i64 l.a, .int .i64 l.b])) ?hiq13 (by kernel_rfl) (by kernel_rfl) (by kernel_rfl) ?hqq13 ?hyq13 hHeld ?restq13
    case hiq13 => exact rfl
    case hqq13 => exact fun _ _ _ h => h
    case hyq13 =>
      refine Or.inl ⟨by rfl, ?_⟩
      intro w hSw
      have m0 := (hSw.cell (p := ⟨ww.heap.size, 0, none⟩) (by show ww.heap.size < ww.heap.size + 1; omega)).trans x0
      have m1 := (hSw.cell (p := ⟨ww.heap.size, 1, none⟩) (by show ww.heap.size < ww.heap.size + 1; omega)).trans x1
      have m2 := (hSw.cell (p := ⟨ww.heap.size, 2, none⟩) (by show ww.heap.size < ww.heap.size + 1; omega)).trans x2
      have m3 := (hSw.cell (p := ⟨ww.heap.size, 3, none⟩) (by show ww.heap.size < ww.heap.size + 1; omega)).trans x3
      go_simp
      (try with_reducible rfl)
    try simp only [Act.put, List.getElem_toArray, List.getElem_cons_succ, List.getElem_cons_zero, List.setIfInBounds_toArray, List.set_cons_zero, List.set_cons_succ]
    refine wpAnyH_take (i := 1) (oi := ?oiq14) (v := (.pointer (some ⟨ww.heap.size, 1, none⟩))) ?hiq14 (by kernel_rfl) (by kernel_rfl) (by kernel_rfl) ?hqq14 ?hyq14 hHeld ?restq14
    case hiq14 => exact rfl
    case hqq14 => exact fun _ _ _ h => h
    case hyq14 =>
      refine Or.inl ⟨by rfl, ?_⟩
      intro w hSw
      go_simp
      (try with_reducible rfl)
    try simp only [Act.put, List.getElem_toArray, List.getElem_cons_succ, List.getElem_cons_zero, List.setIfInBounds_toArray, List.set_cons_zero, List.set_cons_succ]
    refine wpAnyH_take (i := 2) (oi := ?oiq15) (v := (.int .i64 l.to)) ?hiq15 (by kernel_rfl) (by kernel_rfl) (by kernel_rfl) ?hqq15 ?hyq15 hHeld ?restq15
    case hiq15 => exact rfl
    case hqq15 => exact fun _ _ _ h => h
    case hyq15 =>
      refine Or.inl ⟨by rfl, ?_⟩
      intro w hSw
      have m2 := (hSw.cell (p := ⟨ww.heap.size, 1, none⟩) (by show ww.heap.size < ww.heap.size + 1; omega)).trans x1
      go_simp
      (try with_reducible rfl)
    try simp only [Act.put, List.getElem_toArray, List.getElem_cons_succ, List.getElem_cons_zero, List.setIfInBounds_toArray, List.set_cons_zero, List.set_cons_succ]
    refine wpAnyH_take (i := 3) (oi := ?oiq16) (v := (.int .i64 (l.to - 1))) ?hiq16 (by kernel_rfl) (by kernel_rfl) (by kernel_rfl) ?hqq16 ?hyq16 hHeld ?restq16
    case hiq16 => exact rfl
    case hqq16 => exact fun _ _ _ h => h
    case hyq16 =>
      refine Or.inl ⟨by rfl, ?_⟩
      intro w hSw
      go_simp
      (try rw [hw1])
      (try rfl)
      (try with_reducible rfl)
    try simp only [Act.put, List.getElem_toArray, List.getElem_cons_succ, List.getElem_cons_zero, List.setIfInBounds_toArray, List.set_cons_zero, List.set_cons_succ]
    refine wpAnyH_take (i := 5) (oi := ?oiq17) (v := (.agg #[.int .i64 l.op, .int .i64 l.to, .int .i64 l.a, .int .i64 l.b])) ?hiq17 (by kernel_rfl) (by kernel_rfl) (by kernel_rfl) ?hqq17 ?hyq17 hHeld ?restq17
    case hiq17 => exact rfl
    case hqq17 => exact fun _ _ _ h => h
    case hyq17 =>
      refine Or.inl ⟨by rfl, ?_⟩
      intro w hSw
      have m0 := (hSw.cell (p := ⟨ww.heap.size, 0, none⟩) (by show ww.heap.size < ww.heap.size + 1; omega)).trans x0
      have m1 := (hSw.cell (p := ⟨ww.heap.size, 1, none⟩) (by show ww.heap.size < ww.heap.size + 1; omega)).trans x1
      have m2 := (hSw.cell (p := ⟨ww.heap.size, 2, none⟩) (by show ww.heap.size < ww.heap.size + 1; omega)).trans x2
      have m3 := (hSw.cell (p := ⟨ww.heap.size, 3, none⟩) (by show ww.heap.size < ww.heap.size + 1; omega)).trans x3
      go_simp
      (try with_reducible rfl)
    try simp only [Act.put, List.getElem_toArray, List.getElem_cons_succ, List.getElem_cons_zero, List.setIfInBounds_toArray, List.set_cons_zero, List.set_cons_succ]
    refine wpAnyH_take (i := 6) (oi := ?oiq18) (v := (.pointer (some ⟨ww.heap.size, 1, none⟩))) ?hiq18 (by kernel_rfl) (by kernel_rfl) (by kernel_rfl) ?hqq18 ?hyq18 hHeld ?restq18
    case hiq18 => exact rfl
    case hqq18 => exact fun _ _ _ h => h
    case hyq18 =>
      refine Or.inl ⟨by rfl, ?_⟩
      intro w hSw
      go_simp
      (try with_reducible rfl)
    try simp only [Act.put, List.getElem_toArray, List.getElem_cons_succ, List.getElem_cons_zero, List.setIfInBounds_toArray, List.set_cons_zero, List.set_cons_succ]
    refine wpAnyH_take (i := 7) (oi := ?oiq19) (v := (.int .i64 l.to)) ?hiq19 (by kernel_rfl) (by kernel_rfl) (by kernel_rfl) ?hqq19 ?hyq19 hHeld ?restq19
    case hiq19 => exact rfl
    case hqq19 => exact fun _ _ _ h => h
    case hyq19 =>
      refine Or.inl ⟨by rfl, ?_⟩
      intro w hSw
      have m2 := (hSw.cell (p := ⟨ww.heap.size, 1, none⟩) (by show ww.heap.size < ww.heap.size + 1; omega)).trans x1
      go_simp
      (try with_reducible rfl)
    try simp only [Act.put, List.getElem_toArray, List.getElem_cons_succ, List.getElem_cons_zero, List.setIfInBounds_toArray, List.set_cons_zero, List.set_cons_succ]
    refine wpAnyH_take (i := 8) (oi := ?oiq20) (v := (.int .i64 (l.to + 1))) ?hiq20 (by kernel_rfl) (by kernel_rfl) (by kernel_rfl) ?hqq20 ?hyq20 hHeld ?restq20
    case hiq20 => exact rfl
    case hqq20 => exact fun _ _ _ h => h
    case hyq20 =>
      refine Or.inl ⟨by rfl, ?_⟩
      intro w hSw
      go_simp
      (try rw [hw2])
      (try rfl)
      (try with_reducible rfl)
    try simp only [Act.put, List.getElem_toArray, List.getElem_cons_succ, List.getElem_cons_zero, List.setIfInBounds_toArray, List.set_cons_zero, List.set_cons_succ]
    refine wpAnyH_ready (rs := [4]) (by kernel_rfl) (by simp) ?_
    refine AllReadyH.cons (o := ?or24_4) ?hr24_4 ?kr24_4 AllReadyH.nil
    case hr24_4 => exact rfl
    case kr24_4 =>
      intro K hK
      go_simp
      refine (HC1.out _).mono ?_
      rintro e w3 ⟨rfl, hB⟩
      have HB1 := Lib.hid (HBd.out.trans (hB.mono (by have := HBd.out.size; have := HSz.out; omega)))
      clear hB
      refine hK.out _ _ HB1.out (fun hHeld => ?_)
      clear hK K
      try simp only [Act.put, List.getElem_toArray, List.getElem_cons_succ, List.getElem_cons_zero, List.setIfInBounds_toArray, List.set_cons_zero, List.set_cons_succ]
      refine wpAnyH_ready (rs := [9]) (by kernel_rfl) (by simp) ?_
      refine AllReadyH.cons (o := ?or23_9) ?hr23_9 ?kr23_9 AllReadyH.nil
      case hr23_9 => exact rfl
      case kr23_9 =>
        intro K hK
        go_simp
        refine (HC2.out _).mono ?_
        rintro e w4 ⟨rfl, hB⟩
        have HB2 := Lib.hid (HB1.out.trans (hB.mono (by have := HB1.out.size; have := HSz.out; omega)))
        clear hB
        refine hK.out _ _ HB2.out (fun hHeld => ?_)
        clear hK K
        try simp only [Act.put, List.getElem_toArray, List.getElem_cons_succ, List.getElem_cons_zero, List.setIfInBounds_toArray, List.set_cons_zero, List.set_cons_succ]
        refine wpAnyH_ready (rs := [10]) (by kernel_rfl) (by simp) ?_
        refine AllReadyH.cons (o := ?or22_10) ?hr22_10 ?kr22_10 AllReadyH.nil
        case hr22_10 => exact rfl
        case kr22_10 =>
          intro K hK
          go_simp
          have HB3 := Lib.hid (HB2.out.alloc (by have := HB2.out.size; have := HSz.out; omega) (.cells (lc [⟨l.op, l.to - 1, l.a, l.b⟩, ⟨l.op, l.to + 1, l.a, l.b⟩]).toArray 42))
          have HOw := Lib.hid (lines_own_of (base := ww.heap.size) (W := w4.alloc (.cells (lc [⟨l.op, l.to - 1, l.a, l.b⟩, ⟨l.op, l.to + 1, l.a, l.b⟩]).toArray 42)) (qs := [⟨l.op, l.to - 1, l.a, l.b⟩, ⟨l.op, l.to + 1, l.a, l.b⟩]) (n := 2) (hp_new rfl) (by have := HB2.out.size; have := HSz.out; omega) rfl (by decide))
          have HBz := Lib.hid (HBw.out.trans (HB3.out.mono (by omega)))
          refine hK.out _ _ HB3.out (fun hHeld => ?_)
          clear hK K
          try simp only [Act.put, List.getElem_toArray, List.getElem_cons_succ, List.getElem_cons_zero, List.setIfInBounds_toArray, List.set_cons_zero, List.set_cons_succ]
          refine wpAnyH_take (i := 11) (oi := ?oiq21) (v := ?vq21) ?hiq21 (by kernel_rfl) (by kernel_rfl) (by kernel_rfl) ?hqq21 ?hyq21 hHeld ?restq21
          case hiq21 => exact rfl
          case hqq21 => exact fun _ _ _ h => h
          case hyq21 =>
            refine Or.inl ⟨by rfl, ?_⟩
            intro w hSw
            go_simp
            (try with_reducible rfl)
          try simp only [Act.put, List.getElem_toArray, List.getElem_cons_succ, List.getElem_cons_zero, List.setIfInBounds_toArray, List.set_cons_zero, List.set_cons_succ]
          refine wpAnyH_done (by kernel_rfl) ?_ _
          clear hHeld
          refine hKb _ _ ?_
          go_wp2_with fail
          go_ret
          exact ⟨_, _, rfl, HOw.out, HBz.out⟩
  have e7 : (l.op == 7) = false := by simpa using h7
  have HE := Lib.hid (show numsL l = [] by unfold numsL; rw [if_neg h1, if_neg h7])
  rw [HE.out]
  clear h1 h7
  unfold lv
  go_enter Tryz.func78, Tryz.ntmps78
  unfold lV at hW0
  rw [hW0] at x0 x1 x2 x3
  go_wp2_with fail
  rw [← hW0]
  go_ret
  exact ⟨none, 0, rfl, World.ownsRow_nil _ _ _ _, HBw.out⟩

end Go.Proofs.YtfclfmloceddfaaGreat

/- otherOps of seek: contract. -/
set_option linter.unusedVariables false
set_option linter.unusedSimpArgs false
namespace Go.Proofs.YtfclfmloceddfaaGreat
open Go.RowKit Go.Shelf Tinker

def opN (l : L) (k : Nat) : List L := (([3, 4, 5, 6] : List Int).take k).map fun o => ⟨o, l.to, l.a, l.b⟩
theorem opN_succ (l : L) {k : Nat} {n : Int} (h : ([3, 4, 5, 6] : List Int)[k]? = some n) : opN l (k + 1) = opN l k ++ [⟨n, l.to, l.a, l.b⟩] := by
  unfold opN
  rw [take_snoc h, List.map_append]
  rfl
theorem opN_len (l : L) (k : Nat) : (opN l k).length ≤ 4 := by
  unfold opN
  rw [List.length_map, List.length_take]
  exact Nat.min_le_right _ _
theorem mix_has (n : Int) : hasB [3, 4, 5, 6] n = mixB n := by
  unfold hasB mixB
  rw [Bool.eq_iff_iff]
  simp
  omega

set_option maxRecDepth 100000 in
set_option maxHeartbeats 4000000 in
theorem otherOps_any (l : L) (ww : World) : Calls Tryz.prog 80 #[lv l] ww (GivesLines (opsL l) ww) := by
  obtain ⟨i0, hi, hz0, hz1, hz2⟩ := info_parts info_line
  obtain ⟨W0, hW0⟩ : ∃ W, W = (ww.alloc (.cells (lV l) 42)).alloc (.cells #[.int .i64 3, .int .i64 4, .int .i64 5, .int .i64 6] 3) := ⟨_, rfl⟩
  have hb2 : Below ww.heap.size ww W0 := by rw [hW0]; exact ((Below.refl _ _).alloc (Nat.le_refl _) _).alloc (by simp) _
  have hbx : W0.heap[ww.heap.size]? = some (.cells (lV l) 42 (0, 0)) := by rw [hW0]; exact hp_alloc (hp_new rfl)
  have hin : IntsAt W0 (some ⟨ww.heap.size + 1, 0, none⟩) [3, 4, 5, 6] := by rw [hW0]; exact ints_lit' (zs := [3, 4, 5, 6]) (by simp)
  have HI := Lib.hid (containsI_any (some ⟨ww.heap.size + 1, 0, none⟩) 4 [3, 4, 5, 6] l.op _ hin (by decide))
  rw [mix_has] at HI
  obtain ⟨x0, x1, x2, x3⟩ := boxL_cells hbx
  have HBX := Lib.hid hbx
  have HIN := Lib.hid hin
  have HBw := Lib.hid hb2
  clear hb2 hbx hin
  unfold lv
  unfold lV at hW0
  cases hm : mixB l.op
  · have HE := Lib.hid (show opsL l = [] by unfold opsL; rw [hm]; rfl)
    rw [hm] at HI
    rw [HE.out]
    clear hm
    go_enter Tryz.func80, Tryz.ntmps80
    rw [hW0] at x0 x1 x2 x3
    go_wp2_with fail
    rw [show ((ww.alloc (.cells #[.int .i64 l.op, .int .i64 l.to, .int .i64 l.a, .int .i64 l.b] 42)).alloc (.cells #[.int .i64 3, .int .i64 4, .int .i64 5, .int .i64 6] 3)) = W0 from hW0.symm] at x0 x1 x2 x3 ⊢
    clear hW0
    refine HI.out.mono ?_
    rintro e w1 ⟨rfl, rfl⟩
    go_wp2_with fail
    go_ret
    exact ⟨none, 0, rfl, World.ownsRow_nil _ _ _ _, HBw.out⟩
  · have HE := Lib.hid (show opsL l = opN l 4 by unfold opsL; rw [hm]; rfl)
    rw [hm] at HI
    rw [HE.out]
    clear hm HE
    go_enter Tryz.func80, Tryz.ntmps80
    rw [hW0] at x0 x1 x2 x3
    go_wp2_with fail
    rw [show ((ww.alloc (.cells #[.int .i64 l.op, .int .i64 l.to, .int .i64 l.a, .int .i64 l.b] 42)).alloc (.cells #[.int .i64 3, .int .i64 4, .int .i64 5, .int .i64 6] 3)) = W0 from hW0.symm] at x0 x1 x2 x3 ⊢
    clear hW0
    refine HI.out.mono ?_
    rintro e w1 ⟨rfl, hw1⟩
    subst hw1
    clear HI
    go_wp2_with fail
    go_loopw [4, 15] (fun s4 s15 wr => ∃ k : Nat, k ≤ 4 ∧ s15 = .int .i64 k ∧ wr.ownsRow W0.heap.size 42 4 s4 (opN l k).length (lc (opN l k)) ∧ Below W0.heap.size W0 wr) (fun _ s15 _ => 4 - (intOf s15).toNat)
    case atStart => exact ⟨0, by omega, rfl, World.ownsRow_nil _ _ _ _, Below.refl _ _⟩
    case round =>
      clear x0 x1 x2 x3
      obtain ⟨k, hk, rfl, hO, hB⟩ := hrel
      have hbx := hp_below HBX.out hB (hp_lt HBX.out)
      have hin := HIN.out.below hB (Nat.le_refl _)
      by_cases hlt : k < 4
      · obtain ⟨va, vc, rfl⟩ := own_slice hO
        obtain ⟨b, off, n, eb, hlb, hn, c0⟩ := hin.at_ (k := k) (by simpa using hlt)
        injection eb with eb
        injection eb with e1 e2 e3
        subst e1
        subst e2
        rw [Nat.zero_add] at c0
        have HN := Lib.hid (opN_succ l hn)
        have hlen := opN_len l k
        obtain ⟨x0, x1, x2, x3⟩ := boxL_cells hbx
        have HO := Lib.hid hO
        have HB := Lib.hid hB
        clear hO hbx hin hB hn
        generalize opN l k = P at *
        have hal2 : Below wr.heap.size wr (wr.alloc (.cells (lV ⟨n, l.to, l.a, l.b⟩) 42)) := (Below.refl _ _).alloc (Nat.le_refl _) _
        have HO2 := Lib.hid (own_below HO.out hal2 (Nat.le_refl _))
        have HB2 := Lib.hid (HB.out.trans (hal2.mono HB.out.size))
        have HC := Lib.hid (cells_newL wr ⟨n, l.to, l.a, l.b⟩)
        unfold lV at HO2 HB2 HC
        clear hal2
        go_wp2_with (at_builtin; (refine wpList_append_own _ rfl (.tmp 19) (.tmp 28) 22 rfl W0.heap.size 42 i0 (.agg #[.int .i64 0, .int .i64 0, .int .i64 0, .int .i64 0]) 4 32 Tryz.underlying22 hi hz0 hz1 hz2 rfl (by decide) (.slice va P.length vc) P.length (lc P) rfl HO2.out ⟨wr.heap.size, 0, none⟩ 1 1 (lc [⟨n, l.to, l.a, l.b⟩]) rfl ?c1 ?c2 ?c3 ?c4 ?c5 ?c6 ?_))
        case c1 => rfl
        case c2 => first | exact HC.out | exact fun _ _ h => h
        case c3 => exact lc_one _
        case c4 => simp [maxLen]; omega
        case c5 => omega
        case c6 => first | exact HB2.out.size | (have := HB2.out.size; simpa using this)
        intro v' w2 hown hgrow _
        have HB3 := Lib.hid (HB2.out.grown hgrow HB2.out.size (by rintro k hk; exact (HO2.out.lt k hk).1))
        have HO3 := Lib.hid (lines_snoc hown)
        clear hown hgrow
        go_wp2_with fail
        go_roundw
        case rel => exact ⟨k + 1, by omega, by go_num, by rw [HN.out, List.length_append]; exact HO3.out, HB3.out⟩
        case measure => simp [intOf]; omega
      · obtain rfl : k = 4 := by omega
        have HO := Lib.hid hO
        have HB := Lib.hid hB
        clear hO hbx hin hB
        go_wp2_with fail
        go_ret
        exact givesLines_of rfl (own_mono HO.out HBw.out.size) (HBw.out.trans (HB.out.mono HBw.out.size))

end Go.Proofs.YtfclfmloceddfaaGreat

/- otherRegisters of seek: contract. -/
set_option linter.unusedVariables false
set_option linter.unusedSimpArgs false
namespace Go.Proofs.YtfclfmloceddfaaGreat
open Go.RowKit Go.Shelf Tinker

def regN (l : L) (k : Nat) : List L := (rgI 0 k).flatMap (regsTo l)
theorem regN_succ (l : L) (k : Nat) : regN l (k + 1) = regN l k ++ regsTo l (k : Int) := by
  unfold regN
  rw [rgI_succ, List.flatMap_append, Int.zero_add]
  simp
theorem regsTo_len (l : L) (r : Int) : (regsTo l r).length ≤ 3 := by
  unfold regsTo
  split <;> split <;> split <;> simp
theorem regN_len (l : L) : ∀ k, (regN l k).length ≤ 3 * k
  | 0 => by simp [regN, rgI]
  | k + 1 => by
    have := regN_len l k
    have := regsTo_len l (k : Int)
    rw [regN_succ, List.length_append]
    omega

set_option maxRecDepth 100000 in
set_option maxHeartbeats 8000000 in
theorem otherRegisters_any (l : L) (ww : World) : Calls Tryz.prog 79 #[lv l] ww (GivesLines (regsL l) ww) := by
  obtain ⟨i0, hi, hz0, hz1, hz2⟩ := info_parts info_line
  have HR := Lib.hid (fun w => readsTwo_any l w)
  obtain ⟨W0, hW0⟩ : ∃ W, W = ww.alloc (.cells (lV l) 42) := ⟨_, rfl⟩
  have hb2 : Below ww.heap.size ww W0 := by rw [hW0]; exact (Below.refl _ _).alloc (Nat.le_refl _) _
  have hbx : W0.heap[ww.heap.size]? = some (.cells (lV l) 42 (0, 0)) := by rw [hW0]; exact hp_new rfl
  obtain ⟨y0, y1, y2, y3⟩ := boxL_cells hbx
  have HBX := Lib.hid hbx
  have HBw := Lib.hid hb2
  clear hb2 hbx
  rw [show regsL l = regN l 4 from rfl]
  unfold lv at HR ⊢
  unfold lV at hW0
  by_cases hc : l.op = 7
  · have ht : two l = true := by unfold two; rw [hc]; rfl
    have e7 : (l.op != 7) = false := by simpa using hc
    have e2 : (l.op == 2) = false := by simp; omega
    rw [ht] at HR
    have HReg := Lib.hid (show ∀ r : Int, regsTo l r = [] ++ ([⟨l.op, l.to, r, l.b⟩] ++ [⟨l.op, l.to, l.a, r⟩]) from fun r => by unfold regsTo; rw [if_pos hc, if_pos (Or.inr ht), if_pos ht])
    clear hc
    go_enter Tryz.func79, Tryz.ntmps79
    rw [hW0] at y0 y1 y2 y3
    go_wp2_with fail
    rw [← hW0] at y0 y1 y2 y3 ⊢
    clear hW0 y0 y1 y2 y3
    go_loopw [3, 5] (fun s3 s5 wr => ∃ k : Nat, k ≤ 4 ∧ s5 = .int .i64 k ∧ wr.ownsRow W0.heap.size 42 4 s3 (regN l k).length (lc (regN l k)) ∧ Below W0.heap.size W0 wr) (fun _ s5 _ => 4 - (intOf s5).toNat)
    case atStart => exact ⟨0, by omega, rfl, World.ownsRow_nil _ _ _ _, Below.refl _ _⟩
    case round =>
      obtain ⟨k, hk, rfl, hO, hB⟩ := hrel
      by_cases hlt : k < 4
      · have HTo := Lib.hid (fun w => withTo_any l (k : Int) w)
        have HA := Lib.hid (fun w => withA_any l (k : Int) w)
        have HB_ := Lib.hid (fun w => withB_any l (k : Int) w)
        unfold lv at HTo HA HB_
        have HN := Lib.hid (regN_succ l k)
        have hl0 := regN_len l k
        generalize regN l k = P0 at *
        obtain ⟨va0, vc0, rfl⟩ := own_slice hO
        have HO := Lib.hid hO
        have HB := Lib.hid hB
        clear hO hB
        obtain ⟨x0, x1, x2, x3⟩ := boxL_cells (hp_below HBX.out HB.out (hp_lt HBX.out))
        go_wp2_with fail
        refine (HR.out _).mono ?_
        rintro e wc ⟨rfl, hB⟩
        have HO := Lib.hid (own_below HO.out hB (Nat.le_refl _))
        have HB := Lib.hid (HB.out.trans (hB.mono HB.out.size))
        clear hB x0 x1 x2 x3
        obtain ⟨x0, x1, x2, x3⟩ := boxL_cells (hp_below HBX.out HB.out (hp_lt HBX.out))
        go_wp2_with fail
        refine (HA.out _).mono ?_
        rintro e wc ⟨rfl, hB⟩
        have HO := Lib.hid (own_below HO.out hB (Nat.le_refl _))
        have HB := Lib.hid (HB.out.trans (hB.mono HB.out.size))
        clear hB x0 x1 x2 x3
        obtain ⟨W, hW⟩ : ∃ W, W = wc := ⟨_, rfl⟩
        subst hW
        have hal2 : Below W.heap.size W (W.alloc (.cells (lV ⟨l.op, l.to, (k : Int), l.b⟩) 42)) := (Below.refl _ _).alloc (Nat.le_refl _) _
        have HO2 := Lib.hid (own_below HO.out hal2 (Nat.le_refl _))
        have HB2 := Lib.hid (HB.out.trans (hal2.mono HB.out.size))
        have HC := Lib.hid (cells_newL W ⟨l.op, l.to, (k : Int), l.b⟩)
        unfold lV at HO2 HB2 HC
        clear hal2
        go_wp2_with (at_builtin; (refine wpList_append_own _ rfl (.tmp 24) (.tmp 28) 22 rfl W0.heap.size 42 i0 (.agg #[.int .i64 0, .int .i64 0, .int .i64 0, .int .i64 0]) 4 32 Tryz.underlying22 hi hz0 hz1 hz2 rfl (by decide) (.slice va0 P0.length vc0) P0.length (lc P0) rfl HO2.out ⟨W.heap.size, 0, none⟩ 1 1 (lc [⟨l.op, l.to, (k : Int), l.b⟩]) rfl ?c1 ?c2 ?c3 ?c4 ?c5 ?c6 ?_))
        case c1 => rfl
        case c2 => first | exact HC.out | exact fun _ _ h => h
        case c3 => exact lc_one _
        case c4 => simp [maxLen]; omega
        case c5 => omega
        case c6 => first | exact HB2.out.size | (have := HB2.out.size; simpa using this)
        intro v' w2 hown hgrow _
        have HB3 := Lib.hid (HB2.out.grown hgrow HB2.out.size (by rintro k hk; exact (HO2.out.lt k hk).1))
        obtain ⟨P1, hQ⟩ : ∃ Q, Q = P0 ++ [⟨l.op, l.to, (k : Int), l.b⟩] := ⟨_, rfl⟩
        have HQ1 := Lib.hid hQ
        have hl1 : P1.length ≤ P0.length + 1 := by rw [hQ, List.length_append]; exact Nat.le_refl _
        have hO3 : w2.ownsRow W0.heap.size 42 4 v' P1.length (lc P1) := by rw [hQ, List.length_append]; exact lines_snoc hown
        obtain ⟨va1, vc1, rfl⟩ := own_slice hO3
        have HO := Lib.hid hO3
        have HB := Lib.hid HB3.out
        clear hown hgrow hO3 hQ HO2 HB2 HB3 HC
        obtain ⟨x0, x1, x2, x3⟩ := boxL_cells (hp_below HBX.out HB.out (hp_lt HBX.out))
        go_wp2_with fail
        refine (HR.out _).mono ?_
        rintro e wc ⟨rfl, hB⟩
        have HO := Lib.hid (own_below HO.out hB (Nat.le_refl _))
        have HB := Lib.hid (HB.out.trans (hB.mono HB.out.size))
        clear hB x0 x1 x2 x3
        obtain ⟨x0, x1, x2, x3⟩ := boxL_cells (hp_below HBX.out HB.out (hp_lt HBX.out))
        go_wp2_with fail
        refine (HB_.out _).mono ?_
        rintro e wc ⟨rfl, hB⟩
        have HO := Lib.hid (own_below HO.out hB (Nat.le_refl _))
        have HB := Lib.hid (HB.out.trans (hB.mono HB.out.size))
        clear hB x0 x1 x2 x3
        obtain ⟨W, hW⟩ : ∃ W, W = wc := ⟨_, rfl⟩
        subst hW
        have hal2 : Below W.heap.size W (W.alloc (.cells (lV ⟨l.op, l.to, l.a, (k : Int)⟩) 42)) := (Below.refl _ _).alloc (Nat.le_refl _) _
        have HO2 := Lib.hid (own_below HO.out hal2 (Nat.le_refl _))
        have HB2 := Lib.hid (HB.out.trans (hal2.mono HB.out.size))
        have HC := Lib.hid (cells_newL W ⟨l.op, l.to, l.a, (k : Int)⟩)
        unfold lV at HO2 HB2 HC
        clear hal2
        go_wp2_with (at_builtin; (refine wpList_append_own _ rfl (.tmp 32) (.tmp 36) 22 rfl W0.heap.size 42 i0 (.agg #[.int .i64 0, .int .i64 0, .int .i64 0, .int .i64 0]) 4 32 Tryz.underlying22 hi hz0 hz1 hz2 rfl (by decide) (.slice va1 P1.length vc1) P1.length (lc P1) rfl HO2.out ⟨W.heap.size, 0, none⟩ 1 1 (lc [⟨l.op, l.to, l.a, (k : Int)⟩]) rfl ?c1 ?c2 ?c3 ?c4 ?c5 ?c6 ?_))
        case c1 => rfl
        case c2 => first | exact HC.out | exact fun _ _ h => h
        case c3 => exact lc_one _
        case c4 => simp [maxLen]; omega
        case c5 => omega
        case c6 => first | exact HB2.out.size | (have := HB2.out.size; simpa using this)
        intro v' w2 hown hgrow _
        have HB3 := Lib.hid (HB2.out.grown hgrow HB2.out.size (by rintro k hk; exact (HO2.out.lt k hk).1))
        obtain ⟨P2, hQ⟩ : ∃ Q, Q = P1 ++ [⟨l.op, l.to, l.a, (k : Int)⟩] := ⟨_, rfl⟩
        have HQ2 := Lib.hid hQ
        have hl2 : P2.length ≤ P1.length + 1 := by rw [hQ, List.length_append]; exact Nat.le_refl _
        have hO3 : w2.ownsRow W0.heap.size 42 4 v' P2.length (lc P2) := by rw [hQ, List.length_append]; exact lines_snoc hown
        obtain ⟨va2, vc2, rfl⟩ := own_slice hO3
        have HO := Lib.hid hO3
        have HB := Lib.hid HB3.out
        clear hown hgrow hO3 hQ HO2 HB2 HB3 HC
        obtain ⟨x0, x1, x2, x3⟩ := boxL_cells (hp_below HBX.out HB.out (hp_lt HBX.out))
        go_wp2_with fail
        go_roundw
        case rel =>
          have hq : P0 ++ regsTo l (k : Int) = P2 := by rw [HReg.out (k : Int)]; simp only [List.append_assoc, List.cons_append, List.nil_append, List.append_nil, HQ2.out, HQ1.out]
          exact ⟨k + 1, by omega, by go_num, by rw [HN.out, hq]; exact HO.out, HB.out⟩
        case measure => simp [intOf]; omega
      · obtain rfl : k = 4 := by omega
        have HO := Lib.hid hO
        have HB := Lib.hid hB
        clear hO hB
        go_wp2_with fail
        go_ret
        exact givesLines_of rfl (own_mono HO.out HBw.out.size) (HBw.out.trans (HB.out.mono HBw.out.size))
  have e7 : (l.op != 7) = true := by simpa using hc
  by_cases h2 : l.op = 2
  · have ht : two l = false := by unfold two; rw [h2]; rfl
    have e2 : (l.op == 2) = true := by simpa using h2
    rw [ht] at HR
    have HReg := Lib.hid (show ∀ r : Int, regsTo l r = [⟨l.op, r, l.a, l.b⟩] ++ ([⟨l.op, l.to, r, l.b⟩] ++ []) from fun r => by unfold regsTo; rw [if_neg hc, if_pos (Or.inl h2), if_neg (by rw [ht]; decide)])
    clear hc h2
    go_enter Tryz.func79, Tryz.ntmps79
    rw [hW0] at y0 y1 y2 y3
    go_wp2_with fail
    rw [← hW0] at y0 y1 y2 y3 ⊢
    clear hW0 y0 y1 y2 y3
    go_loopw [3, 5] (fun s3 s5 wr => ∃ k : Nat, k ≤ 4 ∧ s5 = .int .i64 k ∧ wr.ownsRow W0.heap.size 42 4 s3 (regN l k).length (lc (regN l k)) ∧ Below W0.heap.size W0 wr) (fun _ s5 _ => 4 - (intOf s5).toNat)
    case atStart => exact ⟨0, by omega, rfl, World.ownsRow_nil _ _ _ _, Below.refl _ _⟩
    case round =>
      obtain ⟨k, hk, rfl, hO, hB⟩ := hrel
      by_cases hlt : k < 4
      · have HTo := Lib.hid (fun w => withTo_any l (k : Int) w)
        have HA := Lib.hid (fun w => withA_any l (k : Int) w)
        have HB_ := Lib.hid (fun w => withB_any l (k : Int) w)
        unfold lv at HTo HA HB_
        have HN := Lib.hid (regN_succ l k)
        have hl0 := regN_len l k
        generalize regN l k = P0 at *
        obtain ⟨va0, vc0, rfl⟩ := own_slice hO
        have HO := Lib.hid hO
        have HB := Lib.hid hB
        clear hO hB
        obtain ⟨x0, x1, x2, x3⟩ := boxL_cells (hp_below HBX.out HB.out (hp_lt HBX.out))
        go_wp2_with fail
        refine (HTo.out _).mono ?_
        rintro e wc ⟨rfl, hB⟩
        have HO := Lib.hid (own_below HO.out hB (Nat.le_refl _))
        have HB := Lib.hid (HB.out.trans (hB.mono HB.out.size))
        clear hB x0 x1 x2 x3
        obtain ⟨W, hW⟩ : ∃ W, W = wc := ⟨_, rfl⟩
        subst hW
        have hal2 : Below W.heap.size W (W.alloc (.cells (lV ⟨l.op, (k : Int), l.a, l.b⟩) 42)) := (Below.refl _ _).alloc (Nat.le_refl _) _
        have HO2 := Lib.hid (own_below HO.out hal2 (Nat.le_refl _))
        have HB2 := Lib.hid (HB.out.trans (hal2.mono HB.out.size))
        have HC := Lib.hid (cells_newL W ⟨l.op, (k : Int), l.a, l.b⟩)
        unfold lV at HO2 HB2 HC
        clear hal2
        go_wp2_with (at_builtin; (refine wpList_append_own _ rfl (.tmp 11) (.tmp 15) 22 rfl W0.heap.size 42 i0 (.agg #[.int .i64 0, .int .i64 0, .int .i64 0, .int .i64 0]) 4 32 Tryz.underlying22 hi hz0 hz1 hz2 rfl (by decide) (.slice va0 P0.length vc0) P0.length (lc P0) rfl HO2.out ⟨W.heap.size, 0, none⟩ 1 1 (lc [⟨l.op, (k : Int), l.a, l.b⟩]) rfl ?c1 ?c2 ?c3 ?c4 ?c5 ?c6 ?_))
        case c1 => rfl
        case c2 => first | exact HC.out | exact fun _ _ h => h
        case c3 => exact lc_one _
        case c4 => simp [maxLen]; omega
        case c5 => omega
        case c6 => first | exact HB2.out.size | (have := HB2.out.size; simpa using this)
        intro v' w2 hown hgrow _
        have HB3 := Lib.hid (HB2.out.grown hgrow HB2.out.size (by rintro k hk; exact (HO2.out.lt k hk).1))
        obtain ⟨P1, hQ⟩ : ∃ Q, Q = P0 ++ [⟨l.op, (k : Int), l.a, l.b⟩] := ⟨_, rfl⟩
        have HQ1 := Lib.hid hQ
        have hl1 : P1.length ≤ P0.length + 1 := by rw [hQ, List.length_append]; exact Nat.le_refl _
        have hO3 : w2.ownsRow W0.heap.size 42 4 v' P1.length (lc P1) := by rw [hQ, List.length_append]; exact lines_snoc hown
        obtain ⟨va1, vc1, rfl⟩ := own_slice hO3
        have HO := Lib.hid hO3
        have HB := Lib.hid HB3.out
        clear hown hgrow hO3 hQ HO2 HB2 HB3 HC
        obtain ⟨x0, x1, x2, x3⟩ := boxL_cells (hp_below HBX.out HB.out (hp_lt HBX.out))
        go_wp2_with fail
        refine (HA.out _).mono ?_
        rintro e wc ⟨rfl, hB⟩
        have HO := Lib.hid (own_below HO.out hB (Nat.le_refl _))
        have HB := Lib.hid (HB.out.trans (hB.mono HB.out.size))
        clear hB x0 x1 x2 x3
        obtain ⟨W, hW⟩ : ∃ W, W = wc := ⟨_, rfl⟩
        subst hW
        have hal2 : Below W.heap.size W (W.alloc (.cells (lV ⟨l.op, l.to, (k : Int), l.b⟩) 42)) := (Below.refl _ _).alloc (Nat.le_refl _) _
        have HO2 := Lib.hid (own_below HO.out hal2 (Nat.le_refl _))
        have HB2 := Lib.hid (HB.out.trans (hal2.mono HB.out.size))
        have HC := Lib.hid (cells_newL W ⟨l.op, l.to, (k : Int), l.b⟩)
        unfold lV at HO2 HB2 HC
        clear hal2
        go_wp2_with (at_builtin; (refine wpList_append_own _ rfl (.tmp 24) (.tmp 28) 22 rfl W0.heap.size 42 i0 (.agg #[.int .i64 0, .int .i64 0, .int .i64 0, .int .i64 0]) 4 32 Tryz.underlying22 hi hz0 hz1 hz2 rfl (by decide) (.slice va1 P1.length vc1) P1.length (lc P1) rfl HO2.out ⟨W.heap.size, 0, none⟩ 1 1 (lc [⟨l.op, l.to, (k : Int), l.b⟩]) rfl ?c1 ?c2 ?c3 ?c4 ?c5 ?c6 ?_))
        case c1 => rfl
        case c2 => first | exact HC.out | exact fun _ _ h => h
        case c3 => exact lc_one _
        case c4 => simp [maxLen]; omega
        case c5 => omega
        case c6 => first | exact HB2.out.size | (have := HB2.out.size; simpa using this)
        intro v' w2 hown hgrow _
        have HB3 := Lib.hid (HB2.out.grown hgrow HB2.out.size (by rintro k hk; exact (HO2.out.lt k hk).1))
        obtain ⟨P2, hQ⟩ : ∃ Q, Q = P1 ++ [⟨l.op, l.to, (k : Int), l.b⟩] := ⟨_, rfl⟩
        have HQ2 := Lib.hid hQ
        have hl2 : P2.length ≤ P1.length + 1 := by rw [hQ, List.length_append]; exact Nat.le_refl _
        have hO3 : w2.ownsRow W0.heap.size 42 4 v' P2.length (lc P2) := by rw [hQ, List.length_append]; exact lines_snoc hown
        obtain ⟨va2, vc2, rfl⟩ := own_slice hO3
        have HO := Lib.hid hO3
        have HB := Lib.hid HB3.out
        clear hown hgrow hO3 hQ HO2 HB2 HB3 HC
        obtain ⟨x0, x1, x2, x3⟩ := boxL_cells (hp_below HBX.out HB.out (hp_lt HBX.out))
        go_wp2_with fail
        refine (HR.out _).mono ?_
        rintro e wc ⟨rfl, hB⟩
        have HO := Lib.hid (own_below HO.out hB (Nat.le_refl _))
        have HB := Lib.hid (HB.out.trans (hB.mono HB.out.size))
        clear hB x0 x1 x2 x3
        obtain ⟨x0, x1, x2, x3⟩ := boxL_cells (hp_below HBX.out HB.out (hp_lt HBX.out))
        go_wp2_with fail
        go_roundw
        case rel =>
          have hq : P0 ++ regsTo l (k : Int) = P2 := by rw [HReg.out (k : Int)]; simp only [List.append_assoc, List.cons_append, List.nil_append, List.append_nil, HQ2.out, HQ1.out]
          exact ⟨k + 1, by omega, by go_num, by rw [HN.out, hq]; exact HO.out, HB.out⟩
        case measure => simp [intOf]; omega
      · obtain rfl : k = 4 := by omega
        have HO := Lib.hid hO
        have HB := Lib.hid hB
        clear hO hB
        go_wp2_with fail
        go_ret
        exact givesLines_of rfl (own_mono HO.out HBw.out.size) (HBw.out.trans (HB.out.mono HBw.out.size))
  have e2 : (l.op == 2) = false := by simpa using h2
  cases ht : two l
  · rw [ht] at HR
    have HReg := Lib.hid (show ∀ r : Int, regsTo l r = [⟨l.op, r, l.a, l.b⟩] ++ ([] ++ []) from fun r => by unfold regsTo; rw [if_neg hc, if_neg (by rw [ht]; simp [h2]), if_neg (by rw [ht]; decide)])
    clear hc
    go_enter Tryz.func79, Tryz.ntmps79
    rw [hW0] at y0 y1 y2 y3
    go_wp2_with fail
    rw [← hW0] at y0 y1 y2 y3 ⊢
    clear hW0 y0 y1 y2 y3
    go_loopw [3, 5] (fun s3 s5 wr => ∃ k : Nat, k ≤ 4 ∧ s5 = .int .i64 k ∧ wr.ownsRow W0.heap.size 42 4 s3 (regN l k).length (lc (regN l k)) ∧ Below W0.heap.size W0 wr) (fun _ s5 _ => 4 - (intOf s5).toNat)
    case atStart => exact ⟨0, by omega, rfl, World.ownsRow_nil _ _ _ _, Below.refl _ _⟩
    case round =>
      obtain ⟨k, hk, rfl, hO, hB⟩ := hrel
      by_cases hlt : k < 4
      · have HTo := Lib.hid (fun w => withTo_any l (k : Int) w)
        have HA := Lib.hid (fun w => withA_any l (k : Int) w)
        have HB_ := Lib.hid (fun w => withB_any l (k : Int) w)
        unfold lv at HTo HA HB_
        have HN := Lib.hid (regN_succ l k)
        have hl0 := regN_len l k
        generalize regN l k = P0 at *
        obtain ⟨va0, vc0, rfl⟩ := own_slice hO
        have HO := Lib.hid hO
        have HB := Lib.hid hB
        clear hO hB
        obtain ⟨x0, x1, x2, x3⟩ := boxL_cells (hp_below HBX.out HB.out (hp_lt HBX.out))
        go_wp2_with fail
        refine (HTo.out _).mono ?_
        rintro e wc ⟨rfl, hB⟩
        have HO := Lib.hid (own_below HO.out hB (Nat.le_refl _))
        have HB := Lib.hid (HB.out.trans (hB.mono HB.out.size))
        clear hB x0 x1 x2 x3
        obtain ⟨W, hW⟩ : ∃ W, W = wc := ⟨_, rfl⟩
        subst hW
        have hal2 : Below W.heap.size W (W.alloc (.cells (lV ⟨l.op, (k : Int), l.a, l.b⟩) 42)) := (Below.refl _ _).alloc (Nat.le_refl _) _
        have HO2 := Lib.hid (own_below HO.out hal2 (Nat.le_refl _))
        have HB2 := Lib.hid (HB.out.trans (hal2.mono HB.out.size))
        have HC := Lib.hid (cells_newL W ⟨l.op, (k : Int), l.a, l.b⟩)
        unfold lV at HO2 HB2 HC
        clear hal2
        go_wp2_with (at_builtin; (refine wpList_append_own _ rfl (.tmp 11) (.tmp 15) 22 rfl W0.heap.size 42 i0 (.agg #[.int .i64 0, .int .i64 0, .int .i64 0, .int .i64 0]) 4 32 Tryz.underlying22 hi hz0 hz1 hz2 rfl (by decide) (.slice va0 P0.length vc0) P0.length (lc P0) rfl HO2.out ⟨W.heap.size, 0, none⟩ 1 1 (lc [⟨l.op, (k : Int), l.a, l.b⟩]) rfl ?c1 ?c2 ?c3 ?c4 ?c5 ?c6 ?_))
        case c1 => rfl
        case c2 => first | exact HC.out | exact fun _ _ h => h
        case c3 => exact lc_one _
        case c4 => simp [maxLen]; omega
        case c5 => omega
        case c6 => first | exact HB2.out.size | (have := HB2.out.size; simpa using this)
        intro v' w2 hown hgrow _
        have HB3 := Lib.hid (HB2.out.grown hgrow HB2.out.size (by rintro k hk; exact (HO2.out.lt k hk).1))
        obtain ⟨P1, hQ⟩ : ∃ Q, Q = P0 ++ [⟨l.op, (k : Int), l.a, l.b⟩] := ⟨_, rfl⟩
        have HQ1 := Lib.hid hQ
        have hl1 : P1.length ≤ P0.length + 1 := by rw [hQ, List.length_append]; exact Nat.le_refl _
        have hO3 : w2.ownsRow W0.heap.size 42 4 v' P1.length (lc P1) := by rw [hQ, List.length_append]; exact lines_snoc hown
        obtain ⟨va1, vc1, rfl⟩ := own_slice hO3
        have HO := Lib.hid hO3
        have HB := Lib.hid HB3.out
        clear hown hgrow hO3 hQ HO2 HB2 HB3 HC
        obtain ⟨x0, x1, x2, x3⟩ := boxL_cells (hp_below HBX.out HB.out (hp_lt HBX.out))
        go_wp2_with fail
        refine (HR.out _).mono ?_
        rintro e wc ⟨rfl, hB⟩
        have HO := Lib.hid (own_below HO.out hB (Nat.le_refl _))
        have HB := Lib.hid (HB.out.trans (hB.mono HB.out.size))
        clear hB x0 x1 x2 x3
        obtain ⟨x0, x1, x2, x3⟩ := boxL_cells (hp_below HBX.out HB.out (hp_lt HBX.out))
        go_wp2_with fail
        refine (HR.out _).mono ?_
        rintro e wc ⟨rfl, hB⟩
        have HO := Lib.hid (own_below HO.out hB (Nat.le_refl _))
        have HB := Lib.hid (HB.out.trans (hB.mono HB.out.size))
        clear hB x0 x1 x2 x3
        obtain ⟨x0, x1, x2, x3⟩ := boxL_cells (hp_below HBX.out HB.out (hp_lt HBX.out))
        go_wp2_with fail
        go_roundw
        case rel =>
          have hq : P0 ++ regsTo l (k : Int) = P1 := by rw [HReg.out (k : Int)]; simp only [List.append_assoc, List.cons_append, List.nil_append, List.append_nil, HQ1.out]
          exact ⟨k + 1, by omega, by go_num, by rw [HN.out, hq]; exact HO.out, HB.out⟩
        case measure => simp [intOf]; omega
      · obtain rfl : k = 4 := by omega
        have HO := Lib.hid hO
        have HB := Lib.hid hB
        clear hO hB
        go_wp2_with fail
        go_ret
        exact givesLines_of rfl (own_mono HO.out HBw.out.size) (HBw.out.trans (HB.out.mono HBw.out.size))
  · rw [ht] at HR
    have HReg := Lib.hid (show ∀ r : Int, regsTo l r = [⟨l.op, r, l.a, l.b⟩] ++ ([⟨l.op, l.to, r, l.b⟩] ++ [⟨l.op, l.to, l.a, r⟩]) from fun r => by unfold regsTo; rw [if_neg hc, if_pos (Or.inr ht), if_pos ht])
    clear hc
    go_enter Tryz.func79, Tryz.ntmps79
    rw [hW0] at y0 y1 y2 y3
    go_wp2_with fail
    rw [← hW0] at y0 y1 y2 y3 ⊢
    clear hW0 y0 y1 y2 y3
    go_loopw [3, 5] (fun s3 s5 wr => ∃ k : Nat, k ≤ 4 ∧ s5 = .int .i64 k ∧ wr.ownsRow W0.heap.size 42 4 s3 (regN l k).length (lc (regN l k)) ∧ Below W0.heap.size W0 wr) (fun _ s5 _ => 4 - (intOf s5).toNat)
    case atStart => exact ⟨0, by omega, rfl, World.ownsRow_nil _ _ _ _, Below.refl _ _⟩
    case round =>
      obtain ⟨k, hk, rfl, hO, hB⟩ := hrel
      by_cases hlt : k < 4
      · have HTo := Lib.hid (fun w => withTo_any l (k : Int) w)
        have HA := Lib.hid (fun w => withA_any l (k : Int) w)
        have HB_ := Lib.hid (fun w => withB_any l (k : Int) w)
        unfold lv at HTo HA HB_
        have HN := Lib.hid (regN_succ l k)
        have hl0 := regN_len l k
        generalize regN l k = P0 at *
        obtain ⟨va0, vc0, rfl⟩ := own_slice hO
        have HO := Lib.hid hO
        have HB := Lib.hid hB
        clear hO hB
        obtain ⟨x0, x1, x2, x3⟩ := boxL_cells (hp_below HBX.out HB.out (hp_lt HBX.out))
        go_wp2_with fail
        refine (HTo.out _).mono ?_
        rintro e wc ⟨rfl, hB⟩
        have HO := Lib.hid (own_below HO.out hB (Nat.le_refl _))
        have HB := Lib.hid (HB.out.trans (hB.mono HB.out.size))
        clear hB x0 x1 x2 x3
        obtain ⟨W, hW⟩ : ∃ W, W = wc := ⟨_, rfl⟩
        subst hW
        have hal2 : Below W.heap.size W (W.alloc (.cells (lV ⟨l.op, (k : Int), l.a, l.b⟩) 42)) := (Below.refl _ _).alloc (Nat.le_refl _) _
        have HO2 := Lib.hid (own_below HO.out hal2 (Nat.le_refl _))
        have HB2 := Lib.hid (HB.out.trans (hal2.mono HB.out.size))
        have HC := Lib.hid (cells_newL W ⟨l.op, (k : Int), l.a, l.b⟩)
        unfold lV at HO2 HB2 HC
        clear hal2
        go_wp2_with (at_builtin; (refine wpList_append_own _ rfl (.tmp 11) (.tmp 15) 22 rfl W0.heap.size 42 i0 (.agg #[.int .i64 0, .int .i64 0, .int .i64 0, .int .i64 0]) 4 32 Tryz.underlying22 hi hz0 hz1 hz2 rfl (by decide) (.slice va0 P0.length vc0) P0.length (lc P0) rfl HO2.out ⟨W.heap.size, 0, none⟩ 1 1 (lc [⟨l.op, (k : Int), l.a, l.b⟩]) rfl ?c1 ?c2 ?c3 ?c4 ?c5 ?c6 ?_))
        case c1 => rfl
        case c2 => first | exact HC.out | exact fun _ _ h => h
        case c3 => exact lc_one _
        case c4 => simp [maxLen]; omega
        case c5 => omega
        case c6 => first | exact HB2.out.size | (have := HB2.out.size; simpa using this)
        intro v' w2 hown hgrow _
        have HB3 := Lib.hid (HB2.out.grown hgrow HB2.out.size (by rintro k hk; exact (HO2.out.lt k hk).1))
        obtain ⟨P1, hQ⟩ : ∃ Q, Q = P0 ++ [⟨l.op, (k : Int), l.a, l.b⟩] := ⟨_, rfl⟩
        have HQ1 := Lib.hid hQ
        have hl1 : P1.length ≤ P0.length + 1 := by rw [hQ, List.length_append]; exact Nat.le_refl _
        have hO3 : w2.ownsRow W0.heap.size 42 4 v' P1.length (lc P1) := by rw [hQ, List.length_append]; exact lines_snoc hown
        obtain ⟨va1, vc1, rfl⟩ := own_slice hO3
        have HO := Lib.hid hO3
        have HB := Lib.hid HB3.out
        clear hown hgrow hO3 hQ HO2 HB2 HB3 HC
        obtain ⟨x0, x1, x2, x3⟩ := boxL_cells (hp_below HBX.out HB.out (hp_lt HBX.out))
        go_wp2_with fail
        refine (HR.out _).mono ?_
        rintro e wc ⟨rfl, hB⟩
        have HO := Lib.hid (own_below HO.out hB (Nat.le_refl _))
        have HB := Lib.hid (HB.out.trans (hB.mono HB.out.size))
        clear hB x0 x1 x2 x3
        obtain ⟨x0, x1, x2, x3⟩ := boxL_cells (hp_below HBX.out HB.out (hp_lt HBX.out))
        go_wp2_with fail
        refine (HA.out _).mono ?_
        rintro e wc ⟨rfl, hB⟩
        have HO := Lib.hid (own_below HO.out hB (Nat.le_refl _))
        have HB := Lib.hid (HB.out.trans (hB.mono HB.out.size))
        clear hB x0 x1 x2 x3
        obtain ⟨W, hW⟩ : ∃ W, W = wc := ⟨_, rfl⟩
        subst hW
        have hal2 : Below W.heap.size W (W.alloc (.cells (lV ⟨l.op, l.to, (k : Int), l.b⟩) 42)) := (Below.refl _ _).alloc (Nat.le_refl _) _
        have HO2 := Lib.hid (own_below HO.out hal2 (Nat.le_refl _))
        have HB2 := Lib.hid (HB.out.trans (hal2.mono HB.out.size))
        have HC := Lib.hid (cells_newL W ⟨l.op, l.to, (k : Int), l.b⟩)
        unfold lV at HO2 HB2 HC
        clear hal2
        go_wp2_with (at_builtin; (refine wpList_append_own _ rfl (.tmp 24) (.tmp 28) 22 rfl W0.heap.size 42 i0 (.agg #[.int .i64 0, .int .i64 0, .int .i64 0, .int .i64 0]) 4 32 Tryz.underlying22 hi hz0 hz1 hz2 rfl (by decide) (.slice va1 P1.length vc1) P1.length (lc P1) rfl HO2.out ⟨W.heap.size, 0, none⟩ 1 1 (lc [⟨l.op, l.to, (k : Int), l.b⟩]) rfl ?c1 ?c2 ?c3 ?c4 ?c5 ?c6 ?_))
        case c1 => rfl
        case c2 => first | exact HC.out | exact fun _ _ h => h
        case c3 => exact lc_one _
        case c4 => simp [maxLen]; omega
        case c5 => omega
        case c6 => first | exact HB2.out.size | (have := HB2.out.size; simpa using this)
        intro v' w2 hown hgrow _
        have HB3 := Lib.hid (HB2.out.grown hgrow HB2.out.size (by rintro k hk; exact (HO2.out.lt k hk).1))
        obtain ⟨P2, hQ⟩ : ∃ Q, Q = P1 ++ [⟨l.op, l.to, (k : Int), l.b⟩] := ⟨_, rfl⟩
        have HQ2 := Lib.hid hQ
        have hl2 : P2.length ≤ P1.length + 1 := by rw [hQ, List.length_append]; exact Nat.le_refl _
        have hO3 : w2.ownsRow W0.heap.size 42 4 v' P2.length (lc P2) := by rw [hQ, List.length_append]; exact lines_snoc hown
        obtain ⟨va2, vc2, rfl⟩ := own_slice hO3
        have HO := Lib.hid hO3
        have HB := Lib.hid HB3.out
        clear hown hgrow hO3 hQ HO2 HB2 HB3 HC
        obtain ⟨x0, x1, x2, x3⟩ := boxL_cells (hp_below HBX.out HB.out (hp_lt HBX.out))
        go_wp2_with fail
        refine (HR.out _).mono ?_
        rintro e wc ⟨rfl, hB⟩
        have HO := Lib.hid (own_below HO.out hB (Nat.le_refl _))
        have HB := Lib.hid (HB.out.trans (hB.mono HB.out.size))
        clear hB x0 x1 x2 x3
        obtain ⟨x0, x1, x2, x3⟩ := boxL_cells (hp_below HBX.out HB.out (hp_lt HBX.out))
        go_wp2_with fail
        refine (HB_.out _).mono ?_
        rintro e wc ⟨rfl, hB⟩
        have HO := Lib.hid (own_below HO.out hB (Nat.le_refl _))
        have HB := Lib.hid (HB.out.trans (hB.mono HB.out.size))
        clear hB x0 x1 x2 x3
        obtain ⟨W, hW⟩ : ∃ W, W = wc := ⟨_, rfl⟩
        subst hW
        have hal2 : Below W.heap.size W (W.alloc (.cells (lV ⟨l.op, l.to, l.a, (k : Int)⟩) 42)) := (Below.refl _ _).alloc (Nat.le_refl _) _
        have HO2 := Lib.hid (own_below HO.out hal2 (Nat.le_refl _))
        have HB2 := Lib.hid (HB.out.trans (hal2.mono HB.out.size))
        have HC := Lib.hid (cells_newL W ⟨l.op, l.to, l.a, (k : Int)⟩)
        unfold lV at HO2 HB2 HC
        clear hal2
        go_wp2_with (at_builtin; (refine wpList_append_own _ rfl (.tmp 32) (.tmp 36) 22 rfl W0.heap.size 42 i0 (.agg #[.int .i64 0, .int .i64 0, .int .i64 0, .int .i64 0]) 4 32 Tryz.underlying22 hi hz0 hz1 hz2 rfl (by decide) (.slice va2 P2.length vc2) P2.length (lc P2) rfl HO2.out ⟨W.heap.size, 0, none⟩ 1 1 (lc [⟨l.op, l.to, l.a, (k : Int)⟩]) rfl ?c1 ?c2 ?c3 ?c4 ?c5 ?c6 ?_))
        case c1 => rfl
        case c2 => first | exact HC.out | exact fun _ _ h => h
        case c3 => exact lc_one _
        case c4 => simp [maxLen]; omega
        case c5 => omega
        case c6 => first | exact HB2.out.size | (have := HB2.out.size; simpa using this)
        intro v' w2 hown hgrow _
        have HB3 := Lib.hid (HB2.out.grown hgrow HB2.out.size (by rintro k hk; exact (HO2.out.lt k hk).1))
        obtain ⟨P3, hQ⟩ : ∃ Q, Q = P2 ++ [⟨l.op, l.to, l.a, (k : Int)⟩] := ⟨_, rfl⟩
        have HQ3 := Lib.hid hQ
        have hl3 : P3.length ≤ P2.length + 1 := by rw [hQ, List.length_append]; exact Nat.le_refl _
        have hO3 : w2.ownsRow W0.heap.size 42 4 v' P3.length (lc P3) := by rw [hQ, List.length_append]; exact lines_snoc hown
        obtain ⟨va3, vc3, rfl⟩ := own_slice hO3
        have HO := Lib.hid hO3
        have HB := Lib.hid HB3.out
        clear hown hgrow hO3 hQ HO2 HB2 HB3 HC
        obtain ⟨x0, x1, x2, x3⟩ := boxL_cells (hp_below HBX.out HB.out (hp_lt HBX.out))
        go_wp2_with fail
        go_roundw
        case rel =>
          have hq : P0 ++ regsTo l (k : Int) = P3 := by rw [HReg.out (k : Int)]; simp only [List.append_assoc, List.cons_append, List.nil_append, List.append_nil, HQ3.out, HQ2.out, HQ1.out]
          exact ⟨k + 1, by omega, by go_num, by rw [HN.out, hq]; exact HO.out, HB.out⟩
        case measure => simp [intOf]; omega
      · obtain rfl : k = 4 := by omega
        have HO := Lib.hid hO
        have HB := Lib.hid hB
        clear hO hB
        go_wp2_with fail
        go_ret
        exact givesLines_of rfl (own_mono HO.out HBw.out.size) (HBw.out.trans (HB.out.mono HBw.out.size))

end Go.Proofs.YtfclfmloceddfaaGreat

/- templates of seek: contract. -/
set_option linter.unusedVariables false
set_option linter.unusedSimpArgs false
namespace Go.Proofs.YtfclfmloceddfaaGreat
open Go.RowKit Go.Shelf Tinker
attribute [local go_sem] Oper.semAt_some

theorem lines_app2 {W1 : World} {base : Nat} {v' : Value} {ls qs : List L} (h : W1.ownsRow base 42 4 v' (ls.length + qs.length) (lc ls ++ lc qs)) : W1.ownsRow base 42 4 v' (ls ++ qs).length (lc (ls ++ qs)) := by
  rw [lc_append, List.length_append]; exact h
/-- append of lines, be the other list nil or not. -/
theorem wpList_append_ln {w : World} {ops : Array Oper} {rest : List Oper} {o : Oper} {act : Act} {Q : Exit → Act → World → Prop} (hgd : o.guard = none) (s x : Operand)
    (ho : o.op = .call { callee := .builtin .append, args := #[s, x], argTypes := #[22, 22] }) (base : Nat) (v : Value) (LS : List L) (hs : act.eval s = v) (hown : w.ownsRow base 42 4 v LS.length (lc LS))
    (a : Option Addr) (c : Nat) (QS : List L) (hx : act.eval x = .slice a QS.length c) (hq : LinesAt w a QS) (hc : a = none → c = 0) (hm : LS.length + QS.length ≤ 10000) (hbase : base ≤ w.heap.size)
    (h : ∀ (v' : Value) (w' : World) (R : List L), Hid (R = LS ++ QS) → w'.ownsRow base 42 4 v' R.length (lc R) → (∀ B a0, Below B a0 w → B ≤ base → Below B a0 w') → wpList Tryz.prog ops Q rest (act.put o.dst v') w') : wpList Tryz.prog ops Q (o :: rest) act w := by
  obtain ⟨i0, hi, hz0, hz1, hz2⟩ := info_parts info_line
  cases a with
  | none =>
    have hq' := hq.none
    have hc' := hc rfl
    subst hq' hc'
    exact wpList_append_own_none hgd s x 22 ho base 42 i0 4 Tryz.underlying22 hi v LS.length (lc LS) hs hown hx (h v w (LS ++ []) (Lib.hid rfl) (by rw [List.append_nil]; exact hown) (fun _ _ h _ => h))
  | some ad =>
    refine wpList_append_own w hgd s x 22 ho base 42 i0 (.agg #[.int .i64 0, .int .i64 0, .int .i64 0, .int .i64 0]) 4 32 Tryz.underlying22 hi hz0 hz1 hz2 rfl (by decide) v LS.length (lc LS) hs hown ad QS.length c (lc QS) hx (lc_length _) hq.cells (lc_one _) (by simp [maxLen]; omega) (by omega) hbase ?_
    intro v' w' hown' hgrow _
    exact h v' w' (LS ++ QS) (Lib.hid rfl) (lines_app2 hown') (fun B a0 hB hle => hB.grown hgrow (by omega) (fun k hk => Nat.le_trans hle (hown.lt k hk).1))

set_option maxRecDepth 100000 in
set_option maxHeartbeats 8000000 in
theorem templates_any (l : L) (ww : World) (hv : isLn l = true) : Calls Tryz.prog 53 #[lv l] ww (GivesLines (tmpl l) ww) := by
  obtain ⟨i0, hi, hz0, hz1, hz2⟩ := info_parts info_line
  obtain ⟨W0, hW0⟩ : ∃ W, W = ww.alloc (.cells (lV l) 42) := ⟨_, rfl⟩
  have hb2 : Below ww.heap.size ww W0 := by rw [hW0]; exact (Below.refl _ _).alloc (Nat.le_refl _) _
  have hbx : W0.heap[ww.heap.size]? = some (.cells (lV l) 42 (0, 0)) := by rw [hW0]; exact hp_new rfl
  have HSz := Lib.hid (show W0.heap.size = ww.heap.size + 1 by rw [hW0]; simp)
  obtain ⟨y0, y1, y2, y3⟩ := boxL_cells hbx
  have HBX := Lib.hid hbx
  have HBw := Lib.hid hb2
  have HLt := Lib.hid (hp_lt hbx)
  clear hb2 hbx
  by_cases h0 : l.op = 0
  · have HE := Lib.hid (tmpl_none h0)
    have e0 : (l.op == 0) = true := by simpa using h0
    rw [HE.out]
    clear h0 hv
    unfold lv
    unfold lV at hW0
    go_enter Tryz.func53, Tryz.ntmps53
    rw [hW0] at y0 y1 y2 y3
    go_wp2_with fail
    rw [← hW0]
    go_ret
    exact ⟨none, 0, rfl, World.ownsRow_nil _ _ _ _, HBw.out⟩
  · have e0 : (l.op == 0) = false := by simpa using h0
    have HT := Lib.hid (tmpl_oth hv h0)
    rw [← HT.out]
    have H1 := Lib.hid (fun w => otherNumbers_any l w hv)
    have H2 := Lib.hid (fun w => otherRegisters_any l w)
    have H3 := Lib.hid (fun w => otherOps_any l w)
    have HR := Lib.hid (fun w => readsTwo_any l w)
    have HA := Lib.hid (fun w => withA_any l l.b w)
    have HB_ := Lib.hid (fun w => withB_any ⟨l.op, l.to, l.b, l.b⟩ l.a w)
    have HO9 := Lib.hid (fun g base c zs w h1 h2 => others_any g base c zs l w h1 h2)
    have k1 : (numsL l).length ≤ 2 := by unfold numsL; split <;> (try split) <;> simp
    have k2 : (regsL l).length ≤ 12 := regN_len l 4
    have k3 : (opsL l).length ≤ 4 := by unfold opsL; split <;> simp
    have HRaw := Lib.hid (show rawL l = [⟨0, 0, 0, 0⟩] ++ numsL l ++ regsL l ++ opsL l ++ swpL l from rfl)
    have HSw := Lib.hid (show swpL l = if two l = true then [⟨l.op, l.to, l.b, l.a⟩] else [] from rfl)
    clear h0 hv HT
    generalize numsL l = L1 at *
    generalize regsL l = L2 at *
    generalize opsL l = L3 at *
    generalize swpL l = L4 at *
    unfold lv at H1 H2 H3 HR HA HB_ HO9 ⊢
    unfold lV at hW0
    go_enter Tryz.func53, Tryz.ntmps53
    rw [hW0] at y0 y1 y2 y3
    go_wp2_with fail
    rw [← hW0] at y0 y1 y2 y3 ⊢
    clear hW0
    have HO := Lib.hid (lines_own_of (base := W0.heap.size) (W := W0.alloc (.cells #[.int .i64 0, .int .i64 0, .int .i64 0, .int .i64 0] 42)) (M := ww.heap.size + 1) (qs := [⟨0, 0, 0, 0⟩]) (n := 1) (hp_new HSz.out) (by rw [HSz.out]; exact Nat.le_refl _) rfl (by decide))
    have HB := Lib.hid (show Below W0.heap.size W0 (W0.alloc (.cells #[.int .i64 0, .int .i64 0, .int .i64 0, .int .i64 0] 42)) from (Below.refl _ _).alloc (Nat.le_refl _) _)
    obtain ⟨P0, hP0⟩ : ∃ Q : List L, Q = [⟨0, 0, 0, 0⟩] := ⟨_, rfl⟩
    have hl0 : P0.length ≤ 1 := by rw [hP0]; exact Nat.le_refl _
    have HO : Hid ((W0.alloc (.cells #[.int .i64 0, .int .i64 0, .int .i64 0, .int .i64 0] 42)).ownsRow W0.heap.size 42 4 (.slice (some ⟨ww.heap.size + 1, 0, none⟩) 1 1) P0.length (lc P0)) := by rw [hP0]; exact HO
    have HP0 := Lib.hid hP0
    clear hP0
    obtain ⟨z0, z1, z2, z3⟩ := boxL_cells (hp_below HBX.out HB.out (hp_lt HBX.out))
    refine (H1.out _).mono ?_
    rintro e wc ⟨aq, cq, rfl, hq, hB⟩
    have HO := Lib.hid (own_below HO.out hB (Nat.le_refl _))
    have HB := Lib.hid (HB.out.trans (hB.mono HB.out.size))
    have HQ := Lib.hid (lines_of_own hq).1
    have HQ0 := Lib.hid (own_nil hq)
    clear hB hq z0 z1 z2 z3
    go_wp2_with (at_builtin; (refine wpList_append_ln rfl (.tmp 9) (.tmp 11) rfl W0.heap.size (.slice (some ⟨ww.heap.size + 1, 0, none⟩) 1 1) P0 rfl HO.out aq cq L1 rfl HQ.out HQ0.out (by omega) HB.out.size ?_))
    intro v' w2 P1 HQ1 hown hgrow
    have hl1 : P1.length ≤ P0.length + L1.length := by rw [HQ1.out, List.length_append]; exact Nat.le_refl _
    obtain ⟨va1, vc1, rfl⟩ := own_slice hown
    have HO := Lib.hid hown
    have HB := Lib.hid (hgrow _ _ HB.out (Nat.le_refl _))
    clear hown hgrow HQ HQ0
    obtain ⟨z0, z1, z2, z3⟩ := boxL_cells (hp_below HBX.out HB.out (hp_lt HBX.out))
    go_wp2_with fail
    refine (H2.out _).mono ?_
    rintro e wc ⟨aq, cq, rfl, hq, hB⟩
    have HO := Lib.hid (own_below HO.out hB (Nat.le_refl _))
    have HB := Lib.hid (HB.out.trans (hB.mono HB.out.size))
    have HQ := Lib.hid (lines_of_own hq).1
    have HQ0 := Lib.hid (own_nil hq)
    clear hB hq z0 z1 z2 z3
    go_wp2_with (at_builtin; (refine wpList_append_ln rfl (.tmp 13) (.tmp 15) rfl W0.heap.size (.slice va1 P1.length vc1) P1 rfl HO.out aq cq L2 rfl HQ.out HQ0.out (by omega) HB.out.size ?_))
    intro v' w2 P2 HQ2 hown hgrow
    have hl2 : P2.length ≤ P1.length + L2.length := by rw [HQ2.out, List.length_append]; exact Nat.le_refl _
    obtain ⟨va2, vc2, rfl⟩ := own_slice hown
    have HO := Lib.hid hown
    have HB := Lib.hid (hgrow _ _ HB.out (Nat.le_refl _))
    clear hown hgrow HQ HQ0
    obtain ⟨z0, z1, z2, z3⟩ := boxL_cells (hp_below HBX.out HB.out (hp_lt HBX.out))
    go_wp2_with fail
    refine (H3.out _).mono ?_
    rintro e wc ⟨aq, cq, rfl, hq, hB⟩
    have HO := Lib.hid (own_below HO.out hB (Nat.le_refl _))
    have HB := Lib.hid (HB.out.trans (hB.mono HB.out.size))
    have HQ := Lib.hid (lines_of_own hq).1
    have HQ0 := Lib.hid (own_nil hq)
    clear hB hq z0 z1 z2 z3
    go_wp2_with (at_builtin; (refine wpList_append_ln rfl (.tmp 17) (.tmp 19) rfl W0.heap.size (.slice va2 P2.length vc2) P2 rfl HO.out aq cq L3 rfl HQ.out HQ0.out (by omega) HB.out.size ?_))
    intro v' w2 P3 HQ3 hown hgrow
    have hl3 : P3.length ≤ P2.length + L3.length := by rw [HQ3.out, List.length_append]; exact Nat.le_refl _
    obtain ⟨va3, vc3, rfl⟩ := own_slice hown
    have HO := Lib.hid hown
    have HB := Lib.hid (hgrow _ _ HB.out (Nat.le_refl _))
    clear hown hgrow HQ HQ0
    obtain ⟨z0, z1, z2, z3⟩ := boxL_cells (hp_below HBX.out HB.out (hp_lt HBX.out))
    go_wp2_with fail
    refine (HR.out _).mono ?_
    rintro e wc ⟨rfl, hB⟩
    have HO := Lib.hid (own_below HO.out hB (Nat.le_refl _))
    have HB := Lib.hid (HB.out.trans (hB.mono HB.out.size))
    clear hB z0 z1 z2 z3
    obtain ⟨z0, z1, z2, z3⟩ := boxL_cells (hp_below HBX.out HB.out (hp_lt HBX.out))
    have hl9 : P3.length ≤ 30 := by omega
    cases ht : two l
    · have HLen := Lib.hid (show 0 < P3.length by rw [HQ3.out, HQ2.out, HQ1.out, HP0.out]; simp)
      go_wp2_with fail
      obtain ⟨gg, rfl⟩ := own_form HO.out (by have := HLen.out; omega)
      have hgb := own_base' HO.out
      refine (HO9.out gg W0.heap.size _ P3 _ HO.out (by omega)).mono ?_
      rintro e w9 ⟨rfl, hO9, hF9⟩
      have HO8 := Lib.hid hO9
      have HF8 := Lib.hid hF9
      clear hO9 hF9
      go_wp2_with fail
      go_ret
      have hr : rawL l = P3 := by rw [HRaw.out, HSw.out, ht]; rw [HQ3.out, HQ2.out, HQ1.out, HP0.out]; simp
      rw [hr]
      exact ⟨_, _, rfl, own_mono HO8.out HBw.out.size, HBw.out.trans ((HB.out.mono HBw.out.size).trans (HF8.out.below (by have := HBw.out.size; omega) (by have := HB.out.size; have := HBw.out.size; omega)))⟩
    · go_wp2_with fail
      rename_i Qb Kb hKb
      have HOd := Lib.hid (show wc.drew.ownsRow W0.heap.size 42 4 (.slice va3 P3.length vc3) P3.length (lc P3) from HO.out)
      have HBd := Lib.hid (show Below W0.heap.size W0 wc.drew from HB.out.trans ⟨rfl, rfl, rfl, Nat.le_refl _, fun _ _ => rfl⟩)
      clear z0 z1 z2 z3 HO HB
      refine wp_region_held_drew (S := (fun W2 => Below W0.heap.size W0 W2)) (by kernel_rfl) ?_ (fun hHeld => ?_)
      · exact HBd.out
      generalize wc.drew = Wd at *
      refine wpAnyH_take (i := 0) (oi := ?oiq5) (v := (.slice va3 P3.length vc3)) ?hiq5 (by kernel_rfl) (by kernel_rfl) (by kernel_rfl) ?hqq5 ?hyq5 hHeld ?restq5
      case hiq5 => exact rfl
      case hqq5 => exact fun _ _ _ h => h
      case hyq5 =>
        refine Or.inl ⟨by rfl, ?_⟩
        intro w hSw
        go_simp
        (try with_reducible rfl)
      try simp only [Act.put, List.getElem_toArray, List.getElem_cons_succ, List.getElem_cons_zero, List.setIfInBounds_toArray, List.set_cons_zero, List.set_cons_succ]
      refine wpAnyH_take (i := 1) (oi := ?oiq6) (v := (.agg #[.int .i64 l.op, .int .i64 l.to, .int .i64 l.a, .int .i64 l.b])) ?hiq6 (by kernel_rfl) (by kernel_rfl) (by kernel_rfl) ?hqq6 ?hyq6 hHeld ?restq6
      case hiq6 => exact rfl
      case hqq6 => exact fun _ _ _ h => h
      case hyq6 =>
        refine Or.inl ⟨by rfl, ?_⟩
        intro w hSw
        have m0 := (hSw.cell (p := ⟨ww.heap.size, 0, none⟩) HLt.out).trans y0
        have m1 := (hSw.cell (p := ⟨ww.heap.size, 1, none⟩) HLt.out).trans y1
        have m2 := (hSw.cell (p := ⟨ww.heap.size, 2, none⟩) HLt.out).trans y2
        have m3 := (hSw.cell (p := ⟨ww.heap.size, 3, none⟩) HLt.out).trans y3
        go_simp
        (try with_reducible rfl)
      try simp only [Act.put, List.getElem_toArray, List.getElem_cons_succ, List.getElem_cons_zero, List.setIfInBounds_toArray, List.set_cons_zero, List.set_cons_succ]
      refine wpAnyH_take (i := 2) (oi := ?oiq7) (v := (.pointer (some ⟨ww.heap.size, 3, none⟩))) ?hiq7 (by kernel_rfl) (by kernel_rfl) (by kernel_rfl) ?hqq7 ?hyq7 hHeld ?restq7
      case hiq7 => exact rfl
      case hqq7 => exact fun _ _ _ h => h
      case hyq7 =>
        refine Or.inl ⟨by rfl, ?_⟩
        intro w hSw
        go_simp
        (try with_reducible rfl)
      try simp only [Act.put, List.getElem_toArray, List.getElem_cons_succ, List.getElem_cons_zero, List.setIfInBounds_toArray, List.set_cons_zero, List.set_cons_succ]
      refine wpAnyH_take (i := 3) (oi := ?oiq8) (v := (.int .i64 l.b)) ?hiq8 (by kernel_rfl) (by kernel_rfl) (by kernel_rfl) ?hqq8 ?hyq8 hHeld ?restq8
      case hiq8 => exact rfl
      case hqq8 => exact fun _ _ _ h => h
      case hyq8 =>
        refine Or.inl ⟨by rfl, ?_⟩
        intro w hSw
        have m3 := (hSw.cell (p := ⟨ww.heap.size, 3, none⟩) HLt.out).trans y3
        go_simp
        (try with_reducible rfl)
      try simp only [Act.put, List.getElem_toArray, List.getElem_cons_succ, List.getElem_cons_zero, List.setIfInBounds_toArray, List.set_cons_zero, List.set_cons_succ]
      refine wpAnyH_take (i := 5) (oi := ?oiq9) (v := (.pointer (some ⟨ww.heap.size, 2, none⟩))) ?hiq9 (by kernel_rfl) (by kernel_rfl) (by kernel_rfl) ?hqq9 ?hyq9 hHeld ?restq9
      case hiq9 => exact rfl
      case hqq9 => exact fun _ _ _ h => h
      case hyq9 =>
        refine Or.inl ⟨by rfl, ?_⟩
        intro w hSw
        go_simp
        (try with_reducible rfl)
      try simp only [Act.put, List.getElem_toArray, List.getElem_cons_succ, List.getElem_cons_zero, List.setIfInBounds_toArray, List.set_cons_zero, List.set_cons_succ]
      refine wpAnyH_take (i := 6) (oi := ?oiq10) (v := (.int .i64 l.a)) ?hiq10 (by kernel_rfl) (by kernel_rfl) (by kernel_rfl) ?hqq10 ?hyq10 hHeld ?restq10
      case hiq10 => exact rfl
      case hqq10 => exact fun _ _ _ h => h
      case hyq10 =>
        refine Or.inl ⟨by rfl, ?_⟩
        intro w hSw
        have m2 := (hSw.cell (p := ⟨ww.heap.size, 2, none⟩) HLt.out).trans y2
        go_simp
        (try with_reducible rfl)
      try simp only [Act.put, List.getElem_toArray, List.getElem_cons_succ, List.getElem_cons_zero, List.setIfInBounds_toArray, List.set_cons_zero, List.set_cons_succ]
      refine wpAnyH_ready (rs := [4]) (by kernel_rfl) (by simp) ?_
      refine AllReadyH.cons (o := ?or11_4) ?hr11_4 ?kr11_4 AllReadyH.nil
      case hr11_4 => exact rfl
      case kr11_4 =>
        intro K hK
        go_simp
        refine (HA.out _).mono ?_
        rintro e w5 ⟨rfl, hB⟩
        have HO4 := Lib.hid (own_below HOd.out hB (Nat.le_refl _))
        have HB4 := Lib.hid (HBd.out.trans (hB.mono HBd.out.size))
        clear hB
        refine hK.out _ _ HB4.out (fun hHeld => ?_)
        clear hK K
        try simp only [Act.put, List.getElem_toArray, List.getElem_cons_succ, List.getElem_cons_zero, List.setIfInBounds_toArray, List.set_cons_zero, List.set_cons_succ]
        refine wpAnyH_ready (rs := [7]) (by kernel_rfl) (by simp) ?_
        refine AllReadyH.cons (o := ?or4_7) ?hr4_7 ?kr4_7 AllReadyH.nil
        case hr4_7 => exact rfl
        case kr4_7 =>
          intro K hK
          go_simp
          refine (HB_.out _).mono ?_
          rintro e w6 ⟨rfl, hB⟩
          have HO5 := Lib.hid (own_below HO4.out hB (Nat.le_refl _))
          have HB5 := Lib.hid (HB4.out.trans (hB.mono HB4.out.size))
          clear hB
          refine hK.out _ _ HB5.out (fun hHeld => ?_)
          clear hK K
          try simp only [Act.put, List.getElem_toArray, List.getElem_cons_succ, List.getElem_cons_zero, List.setIfInBounds_toArray, List.set_cons_zero, List.set_cons_succ]
          refine wpAnyH_ready (rs := [8]) (by kernel_rfl) (by simp) ?_
          refine AllReadyH.cons (o := ?or3_8) ?hr3_8 ?kr3_8 AllReadyH.nil
          case hr3_8 => exact rfl
          case kr3_8 =>
            intro K hK
            go_simp
            have hal : Below w6.heap.size w6 (w6.alloc (.cells (lV ⟨l.op, l.to, l.b, l.a⟩) 42)) := (Below.refl _ _).alloc (Nat.le_refl _) _
            have HO6 := Lib.hid (own_below HO5.out hal (Nat.le_refl _))
            have HB6 := Lib.hid (HB5.out.trans (hal.mono HB5.out.size))
            have HC := Lib.hid (cells_newL w6 ⟨l.op, l.to, l.b, l.a⟩)
            clear hal
            refine hK.out _ _ HB6.out (fun hHeld => ?_)
            clear hK K
            try simp only [Act.put, List.getElem_toArray, List.getElem_cons_succ, List.getElem_cons_zero, List.setIfInBounds_toArray, List.set_cons_zero, List.set_cons_succ]
            refine wpAnyH_ready (rs := [9]) (by kernel_rfl) (by simp) ?_
            refine AllReadyH.cons (o := ?or2_9) ?hr2_9 ?kr2_9 AllReadyH.nil
            case hr2_9 => exact rfl
            case kr2_9 =>
              intro K hK
              rw [if_pos (by rfl)]
              refine wp_append_own _ (.tmp 23) (.tmp 31) 22 rfl W0.heap.size 42 i0 (.agg #[.int .i64 0, .int .i64 0, .int .i64 0, .int .i64 0]) 4 32 Tryz.underlying22 hi hz0 hz1 hz2 rfl (by decide) (.slice va3 P3.length vc3) P3.length (lc P3) rfl HO6.out ⟨w6.heap.size, 0, none⟩ 1 1 (lc [⟨l.op, l.to, l.b, l.a⟩]) rfl rfl ?c2 (lc_one _) (by simp [maxLen]; omega) (by omega) HB6.out.size ?_
              case c2 => first | exact HC.out | exact fun _ _ h => h
              intro v' w7 hown hgrow _
              have HB7 := Lib.hid (HB6.out.grown hgrow HB6.out.size (by rintro k hk; exact (HO6.out.lt k hk).1))
              obtain ⟨P4, hQ⟩ : ∃ Q, Q = P3 ++ [⟨l.op, l.to, l.b, l.a⟩] := ⟨_, rfl⟩
              have HQ4 := Lib.hid hQ
              have hl4 : P4.length ≤ P3.length + 1 := by rw [hQ, List.length_append]; exact Nat.le_refl _
              have hO7 : w7.ownsRow W0.heap.size 42 4 v' P4.length (lc P4) := by rw [hQ, List.length_append]; exact lines_snoc hown
              obtain ⟨va4, vc4, rfl⟩ := own_slice hO7
              have HO7 := Lib.hid hO7
              clear hown hgrow hO7 hQ
              refine hK.out _ _ HB7.out (fun hHeld => ?_)
              clear hK K
              try simp only [Act.put, List.getElem_toArray, List.getElem_cons_succ, List.getElem_cons_zero, List.setIfInBounds_toArray, List.set_cons_zero, List.set_cons_succ]
              refine wpAnyH_take (i := 10) (oi := ?oiq1) (v := ?vq1) ?hiq1 (by kernel_rfl) (by kernel_rfl) (by kernel_rfl) ?hqq1 ?hyq1 hHeld ?restq1
              case hiq1 => exact rfl
              case hqq1 => exact fun _ _ _ h => h
              case hyq1 =>
                refine Or.inl ⟨by rfl, ?_⟩
                intro w hSw
                go_simp
                (try with_reducible rfl)
              try simp only [Act.put, List.getElem_toArray, List.getElem_cons_succ, List.getElem_cons_zero, List.setIfInBounds_toArray, List.set_cons_zero, List.set_cons_succ]
              refine wpAnyH_done (by kernel_rfl) ?_ _
              clear hHeld
              have HLen := Lib.hid (show 0 < P4.length by rw [HQ4.out, List.length_append]; simp)
              have HO := HO7
              have HB := HB7
              obtain ⟨z0, z1, z2, z3⟩ := boxL_cells (hp_below HBX.out HB.out (hp_lt HBX.out))
              refine hKb _ _ ?_
              go_wp2_with fail
              obtain ⟨gg, rfl⟩ := own_form HO.out (by have := HLen.out; omega)
              have hgb := own_base' HO.out
              refine (HO9.out gg W0.heap.size _ P4 _ HO.out (by omega)).mono ?_
              rintro e w9 ⟨rfl, hO9, hF9⟩
              have HO8 := Lib.hid hO9
              have HF8 := Lib.hid hF9
              clear hO9 hF9
              go_wp2_with fail
              go_ret
              have hr : rawL l = P4 := by rw [HRaw.out, HSw.out, ht]; rw [HQ4.out, HQ3.out, HQ2.out, HQ1.out, HP0.out]; simp
              rw [hr]
              exact ⟨_, _, rfl, own_mono HO8.out HBw.out.size, HBw.out.trans ((HB.out.mono HBw.out.size).trans (HF8.out.below (by have := HBw.out.size; omega) (by have := HB.out.size; have := HBw.out.size; omega)))⟩

end Go.Proofs.YtfclfmloceddfaaGreat

/- isNear and Near of seek: contracts. -/
set_option linter.unusedVariables false
set_option linter.unusedSimpArgs false
namespace Go.Proofs.YtfclfmloceddfaaGreat
open Go.RowKit Go.Shelf Tinker
attribute [local go_sem] Oper.semAt_some

theorem tmpl_len (l : L) : (tmpl l).length ≤ 10000 := by
  unfold tmpl
  refine Nat.le_trans (List.length_filter_le _ _) ?_
  have : allL.length ≤ 684 * 8 := allTo_len 8
  omega
theorem has_tmpl (l m : L) : (tmpl l).any (fun x => eqL x m) = (isLn m && nearB l m) := by
  rw [Bool.eq_iff_iff]
  rw [Bool.and_eq_true, ← tmpl_mem]
  exact hasL_iff
/-- What Near answers. -/
def nrB (l m : L) : Bool := isLn l && (isLn m && nearB l m)
def nrC (l m : L) : Int := fe (vl l) (vl m)
theorem nrC_ok {l m : L} (h : nrC l m = 0) : isLn l = true ∧ isLn m = true := by
  unfold nrC at h
  obtain ⟨h1, h2⟩ := fe_0 h
  unfold vl at h1 h2
  constructor
  · cases hl : isLn l
    · rw [hl] at h1; cases h1
    · rfl
  · cases hm : isLn m
    · rw [hm] at h2; cases h2
    · rfl
theorem nrC_no {l m : L} (h : nrC l m ≠ 0) : nrB l m = false := by
  unfold nrB
  cases hl : isLn l
  · rfl
  · cases hm : isLn m
    · rfl
    · exact absurd (by unfold nrC vl; rw [hl, hm]; rfl) h

set_option maxRecDepth 100000 in
set_option maxHeartbeats 4000000 in
theorem isNear_any (l m : L) (ww : World) (hv : isLn l = true) : Calls Tryz.prog 29 #[lv l, lv m] ww fun e w' => e = .returned (.bool (isLn m && nearB l m)) ∧ Below ww.heap.size ww w' := by
  rw [← has_tmpl]
  have HT := Lib.hid (fun w => templates_any l w hv)
  have HC := Lib.hid (fun a c w h => containsL_any a c (tmpl l) m w h (tmpl_len l))
  unfold lv at HT HC ⊢
  generalize tmpl l = T at *
  clear hv
  obtain ⟨W0, hW0⟩ : ∃ W, W = (ww.alloc (.cells (lV l) 42)).alloc (.cells (lV m) 42) := ⟨_, rfl⟩
  have hb : Below ww.heap.size ww W0 := by rw [hW0]; exact ((Below.refl _ _).alloc (Nat.le_refl _) _).alloc (by simp) _
  have h1 : W0.heap[ww.heap.size]? = some (.cells (lV l) 42 (0, 0)) := by rw [hW0]; exact hp_alloc (hp_new rfl)
  have h2 : W0.heap[ww.heap.size + 1]? = some (.cells (lV m) 42 (0, 0)) := by rw [hW0]; exact hp_new (by simp)
  have hs : W0.heap.size = ww.heap.size + 1 + 1 := by rw [hW0]; simp
  obtain ⟨x0, x1, x2, x3⟩ := boxL_cells h1
  obtain ⟨y0, y1, y2, y3⟩ := boxL_cells h2
  have HBd := Lib.hid (show Below (ww.heap.size + 1 + 1) W0 W0.drew from by rw [← hs]; exact ⟨rfl, rfl, rfl, Nat.le_refl _, fun _ _ => rfl⟩)
  have HBw := Lib.hid hb
  have HSz := Lib.hid hs
  have HX1 := Lib.hid h1
  have HX2 := Lib.hid h2
  clear hb h1 h2 hs
  unfold lV at hW0
  go_enter Tryz.func29, Tryz.ntmps29
  rw [hW0] at x0 x1 x2 x3 y0 y1 y2 y3
  go_wp2_with fail
  rw [← hW0] at x0 x1 x2 x3 y0 y1 y2 y3 ⊢
  clear hW0
  rename_i Qb Kb hKb
  refine wp_region_held_drew (S := (fun W2 => Below (ww.heap.size + 1 + 1) W0 W2)) (by kernel_rfl) ?_ (fun hHeld => ?_)
  · exact HBd.out
  generalize W0.drew = Wd at *
  refine wpAnyH_take (i := 0) (oi := ?oiq1) (v := (.agg #[.int .i64 l.op, .int .i64 l.to, .int .i64 l.a, .int .i64 l.b])) ?hiq1 (by kernel_rfl) (by kernel_rfl) (by kernel_rfl) ?hqq1 ?hyq1 hHeld ?restq1
  case hiq1 => exact rfl
  case hqq1 => exact fun _ _ _ h => h
  case hyq1 =>
    refine Or.inl ⟨by rfl, ?_⟩
    intro w hSw
    have m0 := (hSw.cell (p := ⟨ww.heap.size, 0, none⟩) (by show ww.heap.size < ww.heap.size + 1 + 1; omega)).trans x0
    have m1 := (hSw.cell (p := ⟨ww.heap.size, 1, none⟩) (by show ww.heap.size < ww.heap.size + 1 + 1; omega)).trans x1
    have m2 := (hSw.cell (p := ⟨ww.heap.size, 2, none⟩) (by show ww.heap.size < ww.heap.size + 1 + 1; omega)).trans x2
    have m3 := (hSw.cell (p := ⟨ww.heap.size, 3, none⟩) (by show ww.heap.size < ww.heap.size + 1 + 1; omega)).trans x3
    go_simp
    (try with_reducible rfl)
  try simp only [Act.put, List.getElem_toArray, List.getElem_cons_succ, List.getElem_cons_zero, List.setIfInBounds_toArray, List.set_cons_zero, List.set_cons_succ]
  refine wpAnyH_take (i := 2) (oi := ?oiq2) (v := (.agg #[.int .i64 m.op, .int .i64 m.to, .int .i64 m.a, .int .i64 m.b])) ?hiq2 (by kernel_rfl) (by kernel_rfl) (by kernel_rfl) ?hqq2 ?hyq2 hHeld ?restq2
  case hiq2 => exact rfl
  case hqq2 => exact fun _ _ _ h => h
  case hyq2 =>
    refine Or.inl ⟨by rfl, ?_⟩
    intro w hSw
    have m0 := (hSw.cell (p := ⟨ww.heap.size + 1, 0, none⟩) (by show ww.heap.size + 1 < ww.heap.size + 1 + 1; omega)).trans y0
    have m1 := (hSw.cell (p := ⟨ww.heap.size + 1, 1, none⟩) (by show ww.heap.size + 1 < ww.heap.size + 1 + 1; omega)).trans y1
    have m2 := (hSw.cell (p := ⟨ww.heap.size + 1, 2, none⟩) (by show ww.heap.size + 1 < ww.heap.size + 1 + 1; omega)).trans y2
    have m3 := (hSw.cell (p := ⟨ww.heap.size + 1, 3, none⟩) (by show ww.heap.size + 1 < ww.heap.size + 1 + 1; omega)).trans y3
    go_simp
    (try with_reducible rfl)
  try simp only [Act.put, List.getElem_toArray, List.getElem_cons_succ, List.getElem_cons_zero, List.setIfInBounds_toArray, List.set_cons_zero, List.set_cons_succ]
  refine wpAnyH_ready (rs := [1]) (by kernel_rfl) (by simp) ?_
  refine AllReadyH.cons (o := ?or5_1) ?hr5_1 ?kr5_1 AllReadyH.nil
  case hr5_1 => exact rfl
  case kr5_1 =>
    intro K hK
    go_simp
    refine (HT.out _).mono ?_
    rintro e w3 ⟨aq, cq, rfl, hq, hB⟩
    have HB1 := Lib.hid (HBd.out.trans (hB.mono (by have := HBd.out.size; have := HSz.out; omega)))
    have HL := Lib.hid (lines_of_own hq).1
    clear hB hq
    refine hK.out _ _ HB1.out (fun hHeld => ?_)
    clear hK K
    try simp only [Act.put, List.getElem_toArray, List.getElem_cons_succ, List.getElem_cons_zero, List.setIfInBounds_toArray, List.set_cons_zero, List.set_cons_succ]
    refine wpAnyH_ready (rs := [3]) (by kernel_rfl) (by simp) ?_
    refine AllReadyH.cons (o := ?or4_3) ?hr4_3 ?kr4_3 AllReadyH.nil
    case hr4_3 => exact rfl
    case kr4_3 =>
      intro K hK
      go_simp
      refine (HC.out aq cq w3 HL.out).mono ?_
      rintro e w4 ⟨rfl, hB⟩
      have HB2 := Lib.hid (HB1.out.trans (hB.mono (by have := HB1.out.size; have := HSz.out; omega)))
      clear hB
      refine hK.out _ _ HB2.out (fun hHeld => ?_)
      clear hK K
      try simp only [Act.put, List.getElem_toArray, List.getElem_cons_succ, List.getElem_cons_zero, List.setIfInBounds_toArray, List.set_cons_zero, List.set_cons_succ]
      refine wpAnyH_take (i := 4) (oi := ?oiq3) (v := ?vq3) ?hiq3 (by kernel_rfl) (by kernel_rfl) (by kernel_rfl) ?hqq3 ?hyq3 hHeld ?restq3
      case hiq3 => exact rfl
      case hqq3 => exact fun _ _ _ h => h
      case hyq3 =>
        refine Or.inl ⟨by rfl, ?_⟩
        intro w hSw
        go_simp
        (try with_reducible rfl)
      try simp only [Act.put, List.getElem_toArray, List.getElem_cons_succ, List.getElem_cons_zero, List.setIfInBounds_toArray, List.set_cons_zero, List.set_cons_succ]
      refine wpAnyH_done (by kernel_rfl) ?_ _
      clear hHeld
      refine hKb _ _ ?_
      go_wp2_with fail
      go_ret
      exact ⟨rfl, HBw.out.trans (HB2.out.mono (by omega))⟩

set_option maxRecDepth 100000 in
set_option maxHeartbeats 8000000 in
theorem near_any (l m : L) (ww : World) : Calls Tryz.prog 15 #[lv l, lv m] ww fun e w' => e = .returned (.tuple #[.bool (nrB l m), .int .i64 (nrC l m)]) ∧ Below ww.heap.size ww w' := by
  have HV1 := Lib.hid (fun w => validateLine_any l w)
  have HV2 := Lib.hid (fun w => validateLine_any m w)
  obtain ⟨W0, hW0⟩ : ∃ W, W = (ww.alloc (.cells (lV l) 42)).alloc (.cells (lV m) 42) := ⟨_, rfl⟩
  have hb : Below ww.heap.size ww W0 := by rw [hW0]; exact ((Below.refl _ _).alloc (Nat.le_refl _) _).alloc (by simp) _
  have h1 : W0.heap[ww.heap.size]? = some (.cells (lV l) 42 (0, 0)) := by rw [hW0]; exact hp_alloc (hp_new rfl)
  have h2 : W0.heap[ww.heap.size + 1]? = some (.cells (lV m) 42 (0, 0)) := by rw [hW0]; exact hp_new (by simp)
  have hs : W0.heap.size = ww.heap.size + 1 + 1 := by rw [hW0]; simp
  obtain ⟨x0, x1, x2, x3⟩ := boxL_cells h1
  obtain ⟨y0, y1, y2, y3⟩ := boxL_cells h2
  have HBd := Lib.hid (show Below (ww.heap.size + 1 + 1) W0 W0.drew from by rw [← hs]; exact ⟨rfl, rfl, rfl, Nat.le_refl _, fun _ _ => rfl⟩)
  have HBw := Lib.hid hb
  have HSz := Lib.hid hs
  have HX1 := Lib.hid h1
  have HX2 := Lib.hid h2
  clear hb h1 h2 hs
  by_cases hz : nrC l m = 0
  · obtain ⟨v1, v2⟩ := nrC_ok hz
    have HI := Lib.hid (fun w => isNear_any l m w v1)
    rw [show nrB l m = (isLn m && nearB l m) by unfold nrB; rw [v1]; rfl, hz]
    have hfe : fe (vl l) (vl m) = 0 := hz
    unfold lv at HI HV1 HV2 ⊢
    generalize (isLn m && nearB l m) = b at HI ⊢
    generalize vl l = d1 at *
    generalize vl m = d2 at *
    clear hz v1 v2
    unfold lV at hW0
    go_enter Tryz.func15, Tryz.ntmps15
    rw [hW0] at x0 x1 x2 x3 y0 y1 y2 y3
    go_wp2_with fail
    rw [← hW0] at x0 x1 x2 x3 y0 y1 y2 y3 ⊢
    clear hW0
    rename_i Qb Kb hKb
    refine wp_region_held_drew (S := (fun W2 => Below (ww.heap.size + 1 + 1) W0 W2)) (by kernel_rfl) ?_ (fun hHeld => ?_)
    · exact HBd.out
    generalize W0.drew = Wd at *
    refine wpAnyH_take (i := 0) (oi := ?oiq6) (v := (.agg #[.int .i64 l.op, .int .i64 l.to, .int .i64 l.a, .int .i64 l.b])) ?hiq6 (by kernel_rfl) (by kernel_rfl) (by kernel_rfl) ?hqq6 ?hyq6 hHeld ?restq6
    case hiq6 => exact rfl
    case hqq6 => exact fun _ _ _ h => h
    case hyq6 =>
      refine Or.inl ⟨by rfl, ?_⟩
      intro w hSw
      have m0 := (hSw.cell (p := ⟨ww.heap.size, 0, none⟩) (by show ww.heap.size < ww.heap.size + 1 + 1; omega)).trans x0
      have m1 := (hSw.cell (p := ⟨ww.heap.size, 1, none⟩) (by show ww.heap.size < ww.heap.size + 1 + 1; omega)).trans x1
      have m2 := (hSw.cell (p := ⟨ww.heap.size, 2, none⟩) (by show ww.heap.size < ww.heap.size + 1 + 1; omega)).trans x2
      have m3 := (hSw.cell (p := ⟨ww.heap.size, 3, none⟩) (by show ww.heap.size < ww.heap.size + 1 + 1; omega)).trans x3
      go_simp
      (try with_reducible rfl)
    try simp only [Act.put, List.getElem_toArray, List.getElem_cons_succ, List.getElem_cons_zero, List.setIfInBounds_toArray, List.set_cons_zero, List.set_cons_succ]
    refine wpAnyH_take (i := 2) (oi := ?oiq7) (v := (.agg #[.int .i64 m.op, .int .i64 m.to, .int .i64 m.a, .int .i64 m.b])) ?hiq7 (by kernel_rfl) (by kernel_rfl) (by kernel_rfl) ?hqq7 ?hyq7 hHeld ?restq7
    case hiq7 => exact rfl
    case hqq7 => exact fun _ _ _ h => h
    case hyq7 =>
      refine Or.inl ⟨by rfl, ?_⟩
      intro w hSw
      have m0 := (hSw.cell (p := ⟨ww.heap.size + 1, 0, none⟩) (by show ww.heap.size + 1 < ww.heap.size + 1 + 1; omega)).trans y0
      have m1 := (hSw.cell (p := ⟨ww.heap.size + 1, 1, none⟩) (by show ww.heap.size + 1 < ww.heap.size + 1 + 1; omega)).trans y1
      have m2 := (hSw.cell (p := ⟨ww.heap.size + 1, 2, none⟩) (by show ww.heap.size + 1 < ww.heap.size + 1 + 1; omega)).trans y2
      have m3 := (hSw.cell (p := ⟨ww.heap.size + 1, 3, none⟩) (by show ww.heap.size + 1 < ww.heap.size + 1 + 1; omega)).trans y3
      go_simp
      (try with_reducible rfl)
    try simp only [Act.put, List.getElem_toArray, List.getElem_cons_succ, List.getElem_cons_zero, List.setIfInBounds_toArray, List.set_cons_zero, List.set_cons_succ]
    refine wpAnyH_ready (rs := [1]) (by kernel_rfl) (by simp) ?_
    refine AllReadyH.cons (o := ?or12_1) ?hr12_1 ?kr12_1 AllReadyH.nil
    case hr12_1 => exact rfl
    case kr12_1 =>
      intro K hK
      go_simp
      refine (HV1.out _).mono ?_
      rintro e w3 ⟨rfl, hB⟩
      have HB1 := Lib.hid (HBd.out.trans (hB.mono (by have := HBd.out.size; have := HSz.out; omega)))
      clear hB
      refine hK.out _ _ HB1.out (fun hHeld => ?_)
      clear hK K
      try simp only [Act.put, List.getElem_toArray, List.getElem_cons_succ, List.getElem_cons_zero, List.setIfInBounds_toArray, List.set_cons_zero, List.set_cons_succ]
      refine wpAnyH_ready (rs := [3]) (by kernel_rfl) (by simp) ?_
      refine AllReadyH.cons (o := ?or11_3) ?hr11_3 ?kr11_3 AllReadyH.nil
      case hr11_3 => exact rfl
      case kr11_3 =>
        intro K hK
        go_simp
        refine (HV2.out _).mono ?_
        rintro e w4 ⟨rfl, hB⟩
        have HB2 := Lib.hid (HB1.out.trans (hB.mono (by have := HB1.out.size; have := HSz.out; omega)))
        clear hB
        refine hK.out _ _ HB2.out (fun hHeld => ?_)
        clear hK K
        try simp only [Act.put, List.getElem_toArray, List.getElem_cons_succ, List.getElem_cons_zero, List.setIfInBounds_toArray, List.set_cons_zero, List.set_cons_succ]
        refine wpAnyH_ready (rs := [4]) (by kernel_rfl) (by simp) ?_
        refine AllReadyH.cons (o := ?or10_4) ?hr10_4 ?kr10_4 AllReadyH.nil
        case hr10_4 => exact rfl
        case kr10_4 =>
          intro K hK
          go_simp
          have HB3 := Lib.hid (HB2.out.alloc (by have := HB2.out.size; have := HSz.out; omega) (.cells #[.int .i64 d1, .int .i64 d2] 28))
          refine hK.out _ _ HB3.out (fun hHeld => ?_)
          clear hK K
          try simp only [Act.put, List.getElem_toArray, List.getElem_cons_succ, List.getElem_cons_zero, List.setIfInBounds_toArray, List.set_cons_zero, List.set_cons_succ]
          refine wpAnyH_ready (rs := [5]) (by kernel_rfl) (by simp) ?_
          refine AllReadyH.cons (o := ?or9_5) ?hr9_5 ?kr9_5 AllReadyH.nil
          case hr9_5 => exact rfl
          case kr9_5 =>
            intro K hK
            go_simp
            refine (firstError_at _ _ d1 d2 (ints_lit' (zs := [d1, d2]) rfl)).mono ?_
            rintro e w5 ⟨rfl, rfl⟩
            have HB3 := Lib.hid (show Below (ww.heap.size + 1 + 1) W0 (w4.alloc (.cells (iv [d1, d2]) 28)) from HB3.out)
            rw [hfe]
            refine hK.out _ _ HB3.out (fun hHeld => ?_)
            clear hK K
            try simp only [Act.put, List.getElem_toArray, List.getElem_cons_succ, List.getElem_cons_zero, List.setIfInBounds_toArray, List.set_cons_zero, List.set_cons_succ]
            refine wpAnyH_take (i := 6) (oi := ?oiq8) (v := ?vq8) ?hiq8 (by kernel_rfl) (by kernel_rfl) (by kernel_rfl) ?hqq8 ?hyq8 hHeld ?restq8
            case hiq8 => exact rfl
            case hqq8 => exact fun _ _ _ h => h
            case hyq8 =>
              refine Or.inl ⟨by rfl, ?_⟩
              intro w hSw
              go_simp
              (try with_reducible rfl)
            try simp only [Act.put, List.getElem_toArray, List.getElem_cons_succ, List.getElem_cons_zero, List.setIfInBounds_toArray, List.set_cons_zero, List.set_cons_succ]
            refine wpAnyH_done (by kernel_rfl) ?_ _
            clear hHeld
            have HBz := Lib.hid (HBw.out.trans (HB3.out.mono (by omega)))
            generalize w4.alloc (.cells (iv [d1, d2]) 28) = W5 at *
            obtain ⟨p0, p1, p2, p3⟩ := boxL_cells (hp_below HX1.out HB3.out (by omega))
            obtain ⟨q0, q1, q2, q3⟩ := boxL_cells (hp_below HX2.out HB3.out (by omega))
            clear x0 x1 x2 x3 y0 y1 y2 y3
            refine hKb _ _ ?_
            go_wp2_with fail
            refine (HI.out _).mono ?_
            rintro e w6 ⟨rfl, hB⟩
            have HB6 := Lib.hid (HBz.out.trans (hB.mono HBz.out.size))
            clear hB
            go_wp2_with fail
            go_ret2
            exact ⟨rfl, HB6.out⟩
  · rw [nrC_no hz]
    have hfe : fe (vl l) (vl m) = nrC l m := rfl
    have hz1 : (nrC l m != 0) = true := by simpa using hz
    unfold lv at HV1 HV2 ⊢
    generalize nrC l m = q at *
    generalize vl l = d1 at *
    generalize vl m = d2 at *
    clear hz
    unfold lV at hW0
    go_enter Tryz.func15, Tryz.ntmps15
    rw [hW0] at x0 x1 x2 x3 y0 y1 y2 y3
    go_wp2_with fail
    rw [← hW0] at x0 x1 x2 x3 y0 y1 y2 y3 ⊢
    clear hW0
    rename_i Qb Kb hKb
    refine wp_region_held_drew (S := (fun W2 => Below (ww.heap.size + 1 + 1) W0 W2)) (by kernel_rfl) ?_ (fun hHeld => ?_)
    · exact HBd.out
    generalize W0.drew = Wd at *
    refine wpAnyH_take (i := 0) (oi := ?oiq13) (v := (.agg #[.int .i64 l.op, .int .i64 l.to, .int .i64 l.a, .int .i64 l.b])) ?hiq13 (by kernel_rfl) (by kernel_rfl) (by kernel_rfl) ?hqq13 ?hyq13 hHeld ?restq13
    case hiq13 => exact rfl
    case hqq13 => exact fun _ _ _ h => h
    case hyq13 =>
      refine Or.inl ⟨by rfl, ?_⟩
      intro w hSw
      have m0 := (hSw.cell (p := ⟨ww.heap.size, 0, none⟩) (by show ww.heap.size < ww.heap.size + 1 + 1; omega)).trans x0
      have m1 := (hSw.cell (p := ⟨ww.heap.size, 1, none⟩) (by show ww.heap.size < ww.heap.size + 1 + 1; omega)).trans x1
      have m2 := (hSw.cell (p := ⟨ww.heap.size, 2, none⟩) (by show ww.heap.size < ww.heap.size + 1 + 1; omega)).trans x2
      have m3 := (hSw.cell (p := ⟨ww.heap.size, 3, none⟩) (by show ww.heap.size < ww.heap.size + 1 + 1; omega)).trans x3
      go_simp
      (try with_reducible rfl)
    try simp only [Act.put, List.getElem_toArray, List.getElem_cons_succ, List.getElem_cons_zero, List.setIfInBounds_toArray, List.set_cons_zero, List.set_cons_succ]
    refine wpAnyH_take (i := 2) (oi := ?oiq14) (v := (.agg #[.int .i64 m.op, .int .i64 m.to, .int .i64 m.a, .int .i64 m.b])) ?hiq14 (by kernel_rfl) (by kernel_rfl) (by kernel_rfl) ?hqq14 ?hyq14 hHeld ?restq14
    case hiq14 => exact rfl
    case hqq14 => exact fun _ _ _ h => h
    case hyq14 =>
      refine Or.inl ⟨by rfl, ?_⟩
      intro w hSw
      have m0 := (hSw.cell (p := ⟨ww.heap.size + 1, 0, none⟩) (by show ww.heap.size + 1 < ww.heap.size + 1 + 1; omega)).trans y0
      have m1 := (hSw.cell (p := ⟨ww.heap.size + 1, 1, none⟩) (by show ww.heap.size + 1 < ww.heap.size + 1 + 1; omega)).trans y1
      have m2 := (hSw.cell (p := ⟨ww.heap.size + 1, 2, none⟩) (by show ww.heap.size + 1 < ww.heap.size + 1 + 1; omega)).trans y2
      have m3 := (hSw.cell (p := ⟨ww.heap.size + 1, 3, none⟩) (by show ww.heap.size + 1 < ww.heap.size + 1 + 1; omega)).trans y3
      go_simp
      (try with_reducible rfl)
    try simp only [Act.put, List.getElem_toArray, List.getElem_cons_succ, List.getElem_cons_zero, List.setIfInBounds_toArray, List.set_cons_zero, List.set_cons_succ]
    refine wpAnyH_ready (rs := [1]) (by kernel_rfl) (by simp) ?_
    refine AllReadyH.cons (o := ?or19_1) ?hr19_1 ?kr19_1 AllReadyH.nil
    case hr19_1 => exact rfl
    case kr19_1 =>
      intro K hK
      go_simp
      refine (HV1.out _).mono ?_
      rintro e w3 ⟨rfl, hB⟩
      have HB1 := Lib.hid (HBd.out.trans (hB.mono (by have := HBd.out.size; have := HSz.out; omega)))
      clear hB
      refine hK.out _ _ HB1.out (fun hHeld => ?_)
      clear hK K
      try simp only [Act.put, List.getElem_toArray, List.getElem_cons_succ, List.getElem_cons_zero, List.setIfInBounds_toArray, List.set_cons_zero, List.set_cons_succ]
      refine wpAnyH_ready (rs := [3]) (by kernel_rfl) (by simp) ?_
      refine AllReadyH.cons (o := ?or18_3) ?hr18_3 ?kr18_3 AllReadyH.nil
      case hr18_3 => exact rfl
      case kr18_3 =>
        intro K hK
        go_simp
        refine (HV2.out _).mono ?_
        rintro e w4 ⟨rfl, hB⟩
        have HB2 := Lib.hid (HB1.out.trans (hB.mono (by have := HB1.out.size; have := HSz.out; omega)))
        clear hB
        refine hK.out _ _ HB2.out (fun hHeld => ?_)
        clear hK K
        try simp only [Act.put, List.getElem_toArray, List.getElem_cons_succ, List.getElem_cons_zero, List.setIfInBounds_toArray, List.set_cons_zero, List.set_cons_succ]
        refine wpAnyH_ready (rs := [4]) (by kernel_rfl) (by simp) ?_
        refine AllReadyH.cons (o := ?or17_4) ?hr17_4 ?kr17_4 AllReadyH.nil
        case hr17_4 => exact rfl
        case kr17_4 =>
          intro K hK
          go_simp
          have HB3 := Lib.hid (HB2.out.alloc (by have := HB2.out.size; have := HSz.out; omega) (.cells #[.int .i64 d1, .int .i64 d2] 28))
          refine hK.out _ _ HB3.out (fun hHeld => ?_)
          clear hK K
          try simp only [Act.put, List.getElem_toArray, List.getElem_cons_succ, List.getElem_cons_zero, List.setIfInBounds_toArray, List.set_cons_zero, List.set_cons_succ]
          refine wpAnyH_ready (rs := [5]) (by kernel_rfl) (by simp) ?_
          refine AllReadyH.cons (o := ?or16_5) ?hr16_5 ?kr16_5 AllReadyH.nil
          case hr16_5 => exact rfl
          case kr16_5 =>
            intro K hK
            go_simp
            refine (firstError_at _ _ d1 d2 (ints_lit' (zs := [d1, d2]) rfl)).mono ?_
            rintro e w5 ⟨rfl, rfl⟩
            have HB3 := Lib.hid (show Below (ww.heap.size + 1 + 1) W0 (w4.alloc (.cells (iv [d1, d2]) 28)) from HB3.out)
            rw [hfe]
            refine hK.out _ _ HB3.out (fun hHeld => ?_)
            clear hK K
            try simp only [Act.put, List.getElem_toArray, List.getElem_cons_succ, List.getElem_cons_zero, List.setIfInBounds_toArray, List.set_cons_zero, List.set_cons_succ]
            refine wpAnyH_take (i := 6) (oi := ?oiq15) (v := ?vq15) ?hiq15 (by kernel_rfl) (by kernel_rfl) (by kernel_rfl) ?hqq15 ?hyq15 hHeld ?restq15
            case hiq15 => exact rfl
            case hqq15 => exact fun _ _ _ h => h
            case hyq15 =>
              refine Or.inl ⟨by rfl, ?_⟩
              intro w hSw
              go_simp
              (try with_reducible rfl)
            try simp only [Act.put, List.getElem_toArray, List.getElem_cons_succ, List.getElem_cons_zero, List.setIfInBounds_toArray, List.set_cons_zero, List.set_cons_succ]
            refine wpAnyH_done (by kernel_rfl) ?_ _
            clear hHeld
            have HBz := Lib.hid (HBw.out.trans (HB3.out.mono (by omega)))
            generalize w4.alloc (.cells (iv [d1, d2]) 28) = W5 at *
            clear x0 x1 x2 x3 y0 y1 y2 y3
            refine hKb _ _ ?_
            go_wp2_with fail
            go_ret2
            exact ⟨rfl, HBz.out⟩

end Go.Proofs.YtfclfmloceddfaaGreat
