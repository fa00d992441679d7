/- otherNumbers of seek: contract. -/
import Derived.Test.YtfmheeboogffeaaWth
import Derived.Test.YtfmheeboogffeaaDlL
import Derived.Deep.RegionHeld
set_option linter.unusedVariables false
set_option linter.unusedSimpArgs false
namespace Go.Proofs.Ytfmheeboogffeaa
open Go.RowKit Go.Shelf Tinker
attribute [local go_sem] Oper.semAt_some

set_option maxRecDepth 100000 in
set_option maxHeartbeats 4000000 in
theorem otherNumbers_any (l : L) (ww : World) (hv : isLn l = true) : Calls Try.prog 29 #[lv l] ww (GivesLines (numsL l) ww) := by
  obtain ⟨⟨o1, o2⟩, ⟨t1, t2⟩, ⟨a1, a2⟩, ⟨b1, b2⟩⟩ := isLn_bd hv
  clear hv
  obtain ⟨W0, hW0⟩ : ∃ W, W = ww.alloc (.cells (lV l) 23) := ⟨_, rfl⟩
  have hb : Below ww.heap.size ww W0 := by rw [hW0]; exact (Below.refl _ _).alloc (Nat.le_refl _) _
  have h1 : W0.heap[ww.heap.size]? = some (.cells (lV l) 23 (0, 0)) := by rw [hW0]; exact hp_new rfl
  have hs : W0.heap.size = ww.heap.size + 1 := by rw [hW0]; simp
  obtain ⟨x0, x1, x2, x3⟩ := boxL_cells h1
  have HBd := Lib.hid (show Below (ww.heap.size + 1) W0 W0.drew from by rw [← hs]; exact ⟨rfl, rfl, rfl, Nat.le_refl _, fun _ _ => rfl⟩)
  have HBw := Lib.hid hb
  have HSz := Lib.hid hs
  clear hb h1 hs
  by_cases h1 : l.op = 1
  · have HE := Lib.hid (show numsL l = [⟨l.op, l.to, l.a - 1, l.b⟩, ⟨l.op, l.to, l.a + 1, l.b⟩] by unfold numsL; rw [if_pos h1])
    rw [HE.out]
    have e1 : (l.op == 1) = true := by simpa using h1
    clear h1
    have HC1 := Lib.hid (fun w => withA_any l (l.a - 1) w)
    have HC2 := Lib.hid (fun w => withA_any l (l.a + 1) w)
    have hw1 : IntKind.i64.wrap (l.a - 1) = l.a - 1 := IntWalk.i64_in _ (by omega)
    have hw2 : IntKind.i64.wrap (l.a + 1) = l.a + 1 := IntWalk.i64_in _ (by omega)
    unfold lv at HC1 HC2 ⊢
    go_enter Try.func29, Try.ntmps29
    unfold lV at hW0
    rw [hW0] at x0 x1 x2 x3
    go_wp2_with fail
    rw [← hW0] at x0 x1 x2 x3 ⊢
    clear hW0
    rename_i Qb Kb hKb
    refine wp_region_held_drew (S := (fun W2 => Below (ww.heap.size + 1) W0 W2)) (by kernel_rfl) ?_ (fun hHeld => ?_)
    · exact HBd.out
    generalize W0.drew = Wd at *
    refine wpAnyH_take (i := 0) (oi := ?oiq1) (v := (.agg #[.int .i64 l.op, .int .i64 l.to, .int .i64 l.a, .int .i64 l.b])) ?hiq1 (by kernel_rfl) (by kernel_rfl) (by kernel_rfl) ?hqq1 ?hyq1 hHeld ?restq1
    case hiq1 => exact rfl
    case hqq1 => exact fun _ _ _ h => h
    case hyq1 =>
      refine Or.inl ⟨by rfl, ?_⟩
      intro w hSw
      have m0 := (hSw.cell (p := ⟨ww.heap.size, 0, none⟩) (by show ww.heap.size < ww.heap.size + 1; omega)).trans x0
      have m1 := (hSw.cell (p := ⟨ww.heap.size, 1, none⟩) (by show ww.heap.size < ww.heap.size + 1; omega)).trans x1
      have m2 := (hSw.cell (p := ⟨ww.heap.size, 2, none⟩) (by show ww.heap.size < ww.heap.size + 1; omega)).trans x2
      have m3 := (hSw.cell (p := ⟨ww.heap.size, 3, none⟩) (by show ww.heap.size < ww.heap.size + 1; omega)).trans x3
      go_simp
      (try with_reducible rfl)
    try simp only [Act.put, List.getElem_toArray, List.getElem_cons_succ, List.getElem_cons_zero, List.setIfInBounds_toArray, List.set_cons_zero, List.set_cons_succ]
    refine wpAnyH_take (i := 1) (oi := ?oiq2) (v := (.pointer (some ⟨ww.heap.size, 2, none⟩))) ?hiq2 (by kernel_rfl) (by kernel_rfl) (by kernel_rfl) ?hqq2 ?hyq2 hHeld ?restq2
    case hiq2 => exact rfl
    case hqq2 => exact fun _ _ _ h => h
    case hyq2 =>
      refine Or.inl ⟨by rfl, ?_⟩
      intro w hSw
      go_simp
      (try with_reducible rfl)
    try simp only [Act.put, List.getElem_toArray, List.getElem_cons_succ, List.getElem_cons_zero, List.setIfInBounds_toArray, List.set_cons_zero, List.set_cons_succ]
    refine wpAnyH_take (i := 2) (oi := ?oiq3) (v := (.int .i64 l.a)) ?hiq3 (by kernel_rfl) (by kernel_rfl) (by kernel_rfl) ?hqq3 ?hyq3 hHeld ?restq3
    case hiq3 => exact rfl
    case hqq3 => exact fun _ _ _ h => h
    case hyq3 =>
      refine Or.inl ⟨by rfl, ?_⟩
      intro w hSw
      have m2 := (hSw.cell (p := ⟨ww.heap.size, 2, none⟩) (by show ww.heap.size < ww.heap.size + 1; omega)).trans x2
      go_simp
      (try with_reducible rfl)
    try simp only [Act.put, List.getElem_toArray, List.getElem_cons_succ, List.getElem_cons_zero, List.setIfInBounds_toArray, List.set_cons_zero, List.set_cons_succ]
    refine wpAnyH_take (i := 3) (oi := ?oiq4) (v := (.int .i64 (l.a - 1))) ?hiq4 (by kernel_rfl) (by kernel_rfl) (by kernel_rfl) ?hqq4 ?hyq4 hHeld ?restq4
    case hiq4 => exact rfl
    case hqq4 => exact fun _ _ _ h => h
    case hyq4 =>
      refine Or.inl ⟨by rfl, ?_⟩
      intro w hSw
      go_simp
      (try rw [hw1])
      (try rfl)
      (try with_reducible rfl)
    try simp only [Act.put, List.getElem_toArray, List.getElem_cons_succ, List.getElem_cons_zero, List.setIfInBounds_toArray, List.set_cons_zero, List.set_cons_succ]
    refine wpAnyH_take (i := 5) (oi := ?oiq5) (v := (.agg #[.int .i64 l.op, .int .i64 l.to, .int .i64 l.a, .int .i64 l.b])) ?hiq5 (by kernel_rfl) (by kernel_rfl) (by kernel_rfl) ?hqq5 ?hyq5 hHeld ?restq5
    case hiq5 => exact rfl
    case hqq5 => exact fun _ _ _ h => h
    case hyq5 =>
      refine Or.inl ⟨by rfl, ?_⟩
      intro w hSw
      have m0 := (hSw.cell (p := ⟨ww.heap.size, 0, none⟩) (by show ww.heap.size < ww.heap.size + 1; omega)).trans x0
      have m1 := (hSw.cell (p := ⟨ww.heap.size, 1, none⟩) (by show ww.heap.size < ww.heap.size + 1; omega)).trans x1
      have m2 := (hSw.cell (p := ⟨ww.heap.size, 2, none⟩) (by show ww.heap.size < ww.heap.size + 1; omega)).trans x2
      have m3 := (hSw.cell (p := ⟨ww.heap.size, 3, none⟩) (by show ww.heap.size < ww.heap.size + 1; omega)).trans x3
      go_simp
      (try with_reducible rfl)
    try simp only [Act.put, List.getElem_toArray, List.getElem_cons_succ, List.getElem_cons_zero, List.setIfInBounds_toArray, List.set_cons_zero, List.set_cons_succ]
    refine wpAnyH_take (i := 6) (oi := ?oiq6) (v := (.pointer (some ⟨ww.heap.size, 2, none⟩))) ?hiq6 (by kernel_rfl) (by kernel_rfl) (by kernel_rfl) ?hqq6 ?hyq6 hHeld ?restq6
    case hiq6 => exact rfl
    case hqq6 => exact fun _ _ _ h => h
    case hyq6 =>
      refine Or.inl ⟨by rfl, ?_⟩
      intro w hSw
      go_simp
      (try with_reducible rfl)
    try simp only [Act.put, List.getElem_toArray, List.getElem_cons_succ, List.getElem_cons_zero, List.setIfInBounds_toArray, List.set_cons_zero, List.set_cons_succ]
    refine wpAnyH_take (i := 7) (oi := ?oiq7) (v := (.int .i64 l.a)) ?hiq7 (by kernel_rfl) (by kernel_rfl) (by kernel_rfl) ?hqq7 ?hyq7 hHeld ?restq7
    case hiq7 => exact rfl
    case hqq7 => exact fun _ _ _ h => h
    case hyq7 =>
      refine Or.inl ⟨by rfl, ?_⟩
      intro w hSw
      have m2 := (hSw.cell (p := ⟨ww.heap.size, 2, none⟩) (by show ww.heap.size < ww.heap.size + 1; omega)).trans x2
      go_simp
      (try with_reducible rfl)
    try simp only [Act.put, List.getElem_toArray, List.getElem_cons_succ, List.getElem_cons_zero, List.setIfInBounds_toArray, List.set_cons_zero, List.set_cons_succ]
    refine wpAnyH_take (i := 8) (oi := ?oiq8) (v := (.int .i64 (l.a + 1))) ?hiq8 (by kernel_rfl) (by kernel_rfl) (by kernel_rfl) ?hqq8 ?hyq8 hHeld ?restq8
    case hiq8 => exact rfl
    case hqq8 => exact fun _ _ _ h => h
    case hyq8 =>
      refine Or.inl ⟨by rfl, ?_⟩
      intro w hSw
      go_simp
      (try rw [hw2])
      (try rfl)
      (try with_reducible rfl)
    try simp only [Act.put, List.getElem_toArray, List.getElem_cons_succ, List.getElem_cons_zero, List.setIfInBounds_toArray, List.set_cons_zero, List.set_cons_succ]
    refine wpAnyH_ready (rs := [4]) (by kernel_rfl) (by simp) ?_
    refine AllReadyH.cons (o := ?or12_4) ?hr12_4 ?kr12_4 AllReadyH.nil
    case hr12_4 => exact rfl
    case kr12_4 =>
      intro K hK
      go_simp
      refine (HC1.out _).mono ?_
      rintro e w3 ⟨rfl, hB⟩
      have HB1 := Lib.hid (HBd.out.trans (hB.mono (by have := HBd.out.size; have := HSz.out; omega)))
      clear hB
      refine hK.out _ _ HB1.out (fun hHeld => ?_)
      clear hK K
      try simp only [Act.put, List.getElem_toArray, List.getElem_cons_succ, List.getElem_cons_zero, List.setIfInBounds_toArray, List.set_cons_zero, List.set_cons_succ]
      refine wpAnyH_ready (rs := [9]) (by kernel_rfl) (by simp) ?_
      refine AllReadyH.cons (o := ?or11_9) ?hr11_9 ?kr11_9 AllReadyH.nil
      case hr11_9 => exact rfl
      case kr11_9 =>
        intro K hK
        go_simp
        refine (HC2.out _).mono ?_
        rintro e w4 ⟨rfl, hB⟩
        have HB2 := Lib.hid (HB1.out.trans (hB.mono (by have := HB1.out.size; have := HSz.out; omega)))
        clear hB
        refine hK.out _ _ HB2.out (fun hHeld => ?_)
        clear hK K
        try simp only [Act.put, List.getElem_toArray, List.getElem_cons_succ, List.getElem_cons_zero, List.setIfInBounds_toArray, List.set_cons_zero, List.set_cons_succ]
        refine wpAnyH_ready (rs := [10]) (by kernel_rfl) (by simp) ?_
        refine AllReadyH.cons (o := ?or10_10) ?hr10_10 ?kr10_10 AllReadyH.nil
        case hr10_10 => exact rfl
        case kr10_10 =>
          intro K hK
          go_simp
          have HB3 := Lib.hid (HB2.out.alloc (by have := HB2.out.size; have := HSz.out; omega) (.cells (lc [⟨l.op, l.to, l.a - 1, l.b⟩, ⟨l.op, l.to, l.a + 1, l.b⟩]).toArray 23))
          have HOw := Lib.hid (lines_own_of (base := ww.heap.size) (W := w4.alloc (.cells (lc [⟨l.op, l.to, l.a - 1, l.b⟩, ⟨l.op, l.to, l.a + 1, l.b⟩]).toArray 23)) (qs := [⟨l.op, l.to, l.a - 1, l.b⟩, ⟨l.op, l.to, l.a + 1, l.b⟩]) (n := 2) (hp_new rfl) (by have := HB2.out.size; have := HSz.out; omega) rfl (by decide))
          have HBz := Lib.hid (HBw.out.trans (HB3.out.mono (by omega)))
          refine hK.out _ _ HB3.out (fun hHeld => ?_)
          clear hK K
          try simp only [Act.put, List.getElem_toArray, List.getElem_cons_succ, List.getElem_cons_zero, List.setIfInBounds_toArray, List.set_cons_zero, List.set_cons_succ]
          refine wpAnyH_take (i := 11) (oi := ?oiq9) (v := ?vq9) ?hiq9 (by kernel_rfl) (by kernel_rfl) (by kernel_rfl) ?hqq9 ?hyq9 hHeld ?restq9
          case hiq9 => exact rfl
          case hqq9 => exact fun _ _ _ h => h
          case hyq9 =>
            refine Or.inl ⟨by rfl, ?_⟩
            intro w hSw
            go_simp
            (try with_reducible rfl)
          try simp only [Act.put, List.getElem_toArray, List.getElem_cons_succ, List.getElem_cons_zero, List.setIfInBounds_toArray, List.set_cons_zero, List.set_cons_succ]
          refine wpAnyH_done (by kernel_rfl) ?_ _
          clear hHeld
          refine hKb _ _ ?_
          go_wp2_with fail
          go_ret
          exact ⟨_, _, rfl, HOw.out, HBz.out⟩
  have e1 : (l.op == 1) = false := by simpa using h1
  by_cases h7 : l.op = 7
  · have HE := Lib.hid (show numsL l = [⟨l.op, l.to - 1, l.a, l.b⟩, ⟨l.op, l.to + 1, l.a, l.b⟩] by unfold numsL; rw [if_neg h1, if_pos h7])
    rw [HE.out]
    have e7 : (l.op == 7) = true := by simpa using h7
    clear h7 h1
    have HC1 := Lib.hid (fun w => withTo_any l (l.to - 1) w)
    have HC2 := Lib.hid (fun w => withTo_any l (l.to + 1) w)
    have hw1 : IntKind.i64.wrap (l.to - 1) = l.to - 1 := IntWalk.i64_in _ (by omega)
    have hw2 : IntKind.i64.wrap (l.to + 1) = l.to + 1 := IntWalk.i64_in _ (by omega)
    unfold lv at HC1 HC2 ⊢
    go_enter Try.func29, Try.ntmps29
    unfold lV at hW0
    rw [hW0] at x0 x1 x2 x3
    go_wp2_with fail
    rw [← hW0] at x0 x1 x2 x3 ⊢
    clear hW0
    rename_i Qb Kb hKb
    refine wp_region_held_drew (S := (fun W2 => Below (ww.heap.size + 1) W0 W2)) (by kernel_rfl) ?_ (fun hHeld => ?_)
    · exact HBd.out
    generalize W0.drew = Wd at *
    refine wpAnyH_take (i := 0) (oi := ?oiq13) (v := (.agg #[.int .i64 l.op, .int .i64 l.to, .int .i64 l.a, .int .i64 l.b])) ?hiq13 (by kernel_rfl) (by kernel_rfl) (by kernel_rfl) ?hqq13 ?hyq13 hHeld ?restq13
    case hiq13 => exact rfl
    case hqq13 => exact fun _ _ _ h => h
    case hyq13 =>
      refine Or.inl ⟨by rfl, ?_⟩
      intro w hSw
      have m0 := (hSw.cell (p := ⟨ww.heap.size, 0, none⟩) (by show ww.heap.size < ww.heap.size + 1; omega)).trans x0
      have m1 := (hSw.cell (p := ⟨ww.heap.size, 1, none⟩) (by show ww.heap.size < ww.heap.size + 1; omega)).trans x1
      have m2 := (hSw.cell (p := ⟨ww.heap.size, 2, none⟩) (by show ww.heap.size < ww.heap.size + 1; omega)).trans x2
      have m3 := (hSw.cell (p := ⟨ww.heap.size, 3, none⟩) (by show ww.heap.size < ww.heap.size + 1; omega)).trans x3
      go_simp
      (try with_reducible rfl)
    try simp only [Act.put, List.getElem_toArray, List.getElem_cons_succ, List.getElem_cons_zero, List.setIfInBounds_toArray, List.set_cons_zero, List.set_cons_succ]
    refine wpAnyH_take (i := 1) (oi := ?oiq14) (v := (.pointer (some ⟨ww.heap.size, 1, none⟩))) ?hiq14 (by kernel_rfl) (by kernel_rfl) (by kernel_rfl) ?hqq14 ?hyq14 hHeld ?restq14
    case hiq14 => exact rfl
    case hqq14 => exact fun _ _ _ h => h
    case hyq14 =>
      refine Or.inl ⟨by rfl, ?_⟩
      intro w hSw
      go_simp
      (try with_reducible rfl)
    try simp only [Act.put, List.getElem_toArray, List.getElem_cons_succ, List.getElem_cons_zero, List.setIfInBounds_toArray, List.set_cons_zero, List.set_cons_succ]
    refine wpAnyH_take (i := 2) (oi := ?oiq15) (v := (.int .i64 l.to)) ?hiq15 (by kernel_rfl) (by kernel_rfl) (by kernel_rfl) ?hqq15 ?hyq15 hHeld ?restq15
    case hiq15 => exact rfl
    case hqq15 => exact fun _ _ _ h => h
    case hyq15 =>
      refine Or.inl ⟨by rfl, ?_⟩
      intro w hSw
      have m2 := (hSw.cell (p := ⟨ww.heap.size, 1, none⟩) (by show ww.heap.size < ww.heap.size + 1; omega)).trans x1
      go_simp
      (try with_reducible rfl)
    try simp only [Act.put, List.getElem_toArray, List.getElem_cons_succ, List.getElem_cons_zero, List.setIfInBounds_toArray, List.set_cons_zero, List.set_cons_succ]
    refine wpAnyH_take (i := 3) (oi := ?oiq16) (v := (.int .i64 (l.to - 1))) ?hiq16 (by kernel_rfl) (by kernel_rfl) (by kernel_rfl) ?hqq16 ?hyq16 hHeld ?restq16
    case hiq16 => exact rfl
    case hqq16 => exact fun _ _ _ h => h
    case hyq16 =>
      refine Or.inl ⟨by rfl, ?_⟩
      intro w hSw
      go_simp
      (try rw [hw1])
      (try rfl)
      (try with_reducible rfl)
    try simp only [Act.put, List.getElem_toArray, List.getElem_cons_succ, List.getElem_cons_zero, List.setIfInBounds_toArray, List.set_cons_zero, List.set_cons_succ]
    refine wpAnyH_take (i := 5) (oi := ?oiq17) (v := (.agg #[.int .i64 l.op, .int .i64 l.to, .int .i64 l.a, .int .i64 l.b])) ?hiq17 (by kernel_rfl) (by kernel_rfl) (by kernel_rfl) ?hqq17 ?hyq17 hHeld ?restq17
    case hiq17 => exact rfl
    case hqq17 => exact fun _ _ _ h => h
    case hyq17 =>
      refine Or.inl ⟨by rfl, ?_⟩
      intro w hSw
      have m0 := (hSw.cell (p := ⟨ww.heap.size, 0, none⟩) (by show ww.heap.size < ww.heap.size + 1; omega)).trans x0
      have m1 := (hSw.cell (p := ⟨ww.heap.size, 1, none⟩) (by show ww.heap.size < ww.heap.size + 1; omega)).trans x1
      have m2 := (hSw.cell (p := ⟨ww.heap.size, 2, none⟩) (by show ww.heap.size < ww.heap.size + 1; omega)).trans x2
      have m3 := (hSw.cell (p := ⟨ww.heap.size, 3, none⟩) (by show ww.heap.size < ww.heap.size + 1; omega)).trans x3
      go_simp
      (try with_reducible rfl)
    try simp only [Act.put, List.getElem_toArray, List.getElem_cons_succ, List.getElem_cons_zero, List.setIfInBounds_toArray, List.set_cons_zero, List.set_cons_succ]
    refine wpAnyH_take (i := 6) (oi := ?oiq18) (v := (.pointer (some ⟨ww.heap.size, 1, none⟩))) ?hiq18 (by kernel_rfl) (by kernel_rfl) (by kernel_rfl) ?hqq18 ?hyq18 hHeld ?restq18
    case hiq18 => exact rfl
    case hqq18 => exact fun _ _ _ h => h
    case hyq18 =>
      refine Or.inl ⟨by rfl, ?_⟩
      intro w hSw
      go_simp
      (try with_reducible rfl)
    try simp only [Act.put, List.getElem_toArray, List.getElem_cons_succ, List.getElem_cons_zero, List.setIfInBounds_toArray, List.set_cons_zero, List.set_cons_succ]
    refine wpAnyH_take (i := 7) (oi := ?oiq19) (v := (.int .i64 l.to)) ?hiq19 (by kernel_rfl) (by kernel_rfl) (by kernel_rfl) ?hqq19 ?hyq19 hHeld ?restq19
    case hiq19 => exact rfl
    case hqq19 => exact fun _ _ _ h => h
    case hyq19 =>
      refine Or.inl ⟨by rfl, ?_⟩
      intro w hSw
      have m2 := (hSw.cell (p := ⟨ww.heap.size, 1, none⟩) (by show ww.heap.size < ww.heap.size + 1; omega)).trans x1
      go_simp
      (try with_reducible rfl)
    try simp only [Act.put, List.getElem_toArray, List.getElem_cons_succ, List.getElem_cons_zero, List.setIfInBounds_toArray, List.set_cons_zero, List.set_cons_succ]
    refine wpAnyH_take (i := 8) (oi := ?oiq20) (v := (.int .i64 (l.to + 1))) ?hiq20 (by kernel_rfl) (by kernel_rfl) (by kernel_rfl) ?hqq20 ?hyq20 hHeld ?restq20
    case hiq20 => exact rfl
    case hqq20 => exact fun _ _ _ h => h
    case hyq20 =>
      refine Or.inl ⟨by rfl, ?_⟩
      intro w hSw
      go_simp
      (try rw [hw2])
      (try rfl)
      (try with_reducible rfl)
    try simp only [Act.put, List.getElem_toArray, List.getElem_cons_succ, List.getElem_cons_zero, List.setIfInBounds_toArray, List.set_cons_zero, List.set_cons_succ]
    refine wpAnyH_ready (rs := [4]) (by kernel_rfl) (by simp) ?_
    refine AllReadyH.cons (o := ?or24_4) ?hr24_4 ?kr24_4 AllReadyH.nil
    case hr24_4 => exact rfl
    case kr24_4 =>
      intro K hK
      go_simp
      refine (HC1.out _).mono ?_
      rintro e w3 ⟨rfl, hB⟩
      have HB1 := Lib.hid (HBd.out.trans (hB.mono (by have := HBd.out.size; have := HSz.out; omega)))
      clear hB
      refine hK.out _ _ HB1.out (fun hHeld => ?_)
      clear hK K
      try simp only [Act.put, List.getElem_toArray, List.getElem_cons_succ, List.getElem_cons_zero, List.setIfInBounds_toArray, List.set_cons_zero, List.set_cons_succ]
      refine wpAnyH_ready (rs := [9]) (by kernel_rfl) (by simp) ?_
      refine AllReadyH.cons (o := ?or23_9) ?hr23_9 ?kr23_9 AllReadyH.nil
      case hr23_9 => exact rfl
      case kr23_9 =>
        intro K hK
        go_simp
        refine (HC2.out _).mono ?_
        rintro e w4 ⟨rfl, hB⟩
        have HB2 := Lib.hid (HB1.out.trans (hB.mono (by have := HB1.out.size; have := HSz.out; omega)))
        clear hB
        refine hK.out _ _ HB2.out (fun hHeld => ?_)
        clear hK K
        try simp only [Act.put, List.getElem_toArray, List.getElem_cons_succ, List.getElem_cons_zero, List.setIfInBounds_toArray, List.set_cons_zero, List.set_cons_succ]
        refine wpAnyH_ready (rs := [10]) (by kernel_rfl) (by simp) ?_
        refine AllReadyH.cons (o := ?or22_10) ?hr22_10 ?kr22_10 AllReadyH.nil
        case hr22_10 => exact rfl
        case kr22_10 =>
          intro K hK
          go_simp
          have HB3 := Lib.hid (HB2.out.alloc (by have := HB2.out.size; have := HSz.out; omega) (.cells (lc [⟨l.op, l.to - 1, l.a, l.b⟩, ⟨l.op, l.to + 1, l.a, l.b⟩]).toArray 23))
          have HOw := Lib.hid (lines_own_of (base := ww.heap.size) (W := w4.alloc (.cells (lc [⟨l.op, l.to - 1, l.a, l.b⟩, ⟨l.op, l.to + 1, l.a, l.b⟩]).toArray 23)) (qs := [⟨l.op, l.to - 1, l.a, l.b⟩, ⟨l.op, l.to + 1, l.a, l.b⟩]) (n := 2) (hp_new rfl) (by have := HB2.out.size; have := HSz.out; omega) rfl (by decide))
          have HBz := Lib.hid (HBw.out.trans (HB3.out.mono (by omega)))
          refine hK.out _ _ HB3.out (fun hHeld => ?_)
          clear hK K
          try simp only [Act.put, List.getElem_toArray, List.getElem_cons_succ, List.getElem_cons_zero, List.setIfInBounds_toArray, List.set_cons_zero, List.set_cons_succ]
          refine wpAnyH_take (i := 11) (oi := ?oiq21) (v := ?vq21) ?hiq21 (by kernel_rfl) (by kernel_rfl) (by kernel_rfl) ?hqq21 ?hyq21 hHeld ?restq21
          case hiq21 => exact rfl
          case hqq21 => exact fun _ _ _ h => h
          case hyq21 =>
            refine Or.inl ⟨by rfl, ?_⟩
            intro w hSw
            go_simp
            (try with_reducible rfl)
          try simp only [Act.put, List.getElem_toArray, List.getElem_cons_succ, List.getElem_cons_zero, List.setIfInBounds_toArray, List.set_cons_zero, List.set_cons_succ]
          refine wpAnyH_done (by kernel_rfl) ?_ _
          clear hHeld
          refine hKb _ _ ?_
          go_wp2_with fail
          go_ret
          exact ⟨_, _, rfl, HOw.out, HBz.out⟩
  have e7 : (l.op == 7) = false := by simpa using h7
  have HE := Lib.hid (show numsL l = [] by unfold numsL; rw [if_neg h1, if_neg h7])
  rw [HE.out]
  clear h1 h7
  unfold lv
  go_enter Try.func29, Try.ntmps29
  unfold lV at hW0
  rw [hW0] at x0 x1 x2 x3
  go_wp2_with fail
  rw [← hW0]
  go_ret
  exact ⟨none, 0, rfl, World.ownsRow_nil _ _ _ _, HBw.out⟩

end Go.Proofs.Ytfmheeboogffeaa
