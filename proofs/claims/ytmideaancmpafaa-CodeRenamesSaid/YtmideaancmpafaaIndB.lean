/- Independent: contracts. -/
import Derived.Test.YtmideaancmpafaaIndA
set_option linter.unusedVariables false
set_option linter.unusedSimpArgs false
namespace Go.Proofs.Ytmideaancmpafaa
open Go.RowKit Tinker

set_option maxRecDepth 100000 in
set_option maxHeartbeats 1000000 in
theorem areIndependent_any (l m : L) (w : World) (hl : isLn l = true) (hm : isLn m = true) : Calls Try.prog 82 #[.agg #[.int .i64 l.op, .int .i64 l.to, .int .i64 l.a, .int .i64 l.b], .agg #[.int .i64 m.op, .int .i64 m.to, .int .i64 m.a, .int .i64 m.b]] w fun e w' => e = .returned (.bool (indB l m)) ∧ Below w.heap.size w w' := by
  have H1 := Lib.hid (fun w => disturbs_any l m w hl hm)
  have H2 := Lib.hid (fun w => disturbs_any m l w hm hl)
  unfold lv at H1 H2
  have hI := TwoI.new l m w
  have c0 := hI.c0
  have c1 := hI.c1
  have c2 := hI.c2
  have c3 := hI.c3
  have d0 := hI.d0
  have d1 := hI.d1
  have d2 := hI.d2
  have d3 := hI.d3
  cases h1 : (l.op != 7)
  · have e1 : (l.op == 7) = true := by simpa using h1
    have HE := Lib.hid (show indB l m = false by unfold indB; rw [h1]; rfl)
    rw [HE.out]
    go_enter Try.func82, Try.ntmps82
    go_wp2_with fail
    go_ret
    exact ⟨rfl, hI.below⟩
  · have e1 : (l.op == 7) = false := by simpa using h1
    cases h2 : (m.op != 7)
    · have e2 : (m.op == 7) = true := by simpa using h2
      have HE := Lib.hid (show indB l m = false by unfold indB; rw [h1, h2]; rfl)
      rw [HE.out]
      go_enter Try.func82, Try.ntmps82
      go_wp2_with fail
      go_ret
      exact ⟨rfl, hI.below⟩
    · have e2 : (m.op == 7) = false := by simpa using h2
      cases h3 : distB l m
      · cases h4 : distB m l
        · have HE := Lib.hid (show indB l m = true by unfold indB; rw [h1, h2, h3, h4]; rfl)
          rw [HE.out]
          rw [h3] at H1
          rw [h4] at H2
          clear h3 h4
          go_enter Try.func82, Try.ntmps82
          go_wp2_with fail
          refine (H1.out _).mono ?_
          rintro e wa ⟨rfl, hBa⟩
          replace hI := hI.low hBa (.inl rfl)
          clear hBa
          clear c0 c1 c2 c3 d0 d1 d2 d3
          have c0 := hI.c0
          have c1 := hI.c1
          have c2 := hI.c2
          have c3 := hI.c3
          have d0 := hI.d0
          have d1 := hI.d1
          have d2 := hI.d2
          have d3 := hI.d3
          go_wp2_with fail
          refine (H2.out _).mono ?_
          rintro e wa ⟨rfl, hBa⟩
          replace hI := hI.low hBa (.inl rfl)
          clear hBa
          clear c0 c1 c2 c3 d0 d1 d2 d3
          have c0 := hI.c0
          have c1 := hI.c1
          have c2 := hI.c2
          have c3 := hI.c3
          have d0 := hI.d0
          have d1 := hI.d1
          have d2 := hI.d2
          have d3 := hI.d3
          go_wp2_with fail
          go_ret
          exact ⟨rfl, hI.below⟩
        · have HE := Lib.hid (show indB l m = false by unfold indB; rw [h1, h2, h3, h4]; rfl)
          rw [HE.out]
          rw [h3] at H1
          rw [h4] at H2
          clear h3 h4
          go_enter Try.func82, Try.ntmps82
          go_wp2_with fail
          refine (H1.out _).mono ?_
          rintro e wa ⟨rfl, hBa⟩
          replace hI := hI.low hBa (.inl rfl)
          clear hBa
          clear c0 c1 c2 c3 d0 d1 d2 d3
          have c0 := hI.c0
          have c1 := hI.c1
          have c2 := hI.c2
          have c3 := hI.c3
          have d0 := hI.d0
          have d1 := hI.d1
          have d2 := hI.d2
          have d3 := hI.d3
          go_wp2_with fail
          refine (H2.out _).mono ?_
          rintro e wa ⟨rfl, hBa⟩
          replace hI := hI.low hBa (.inl rfl)
          clear hBa
          clear c0 c1 c2 c3 d0 d1 d2 d3
          have c0 := hI.c0
          have c1 := hI.c1
          have c2 := hI.c2
          have c3 := hI.c3
          have d0 := hI.d0
          have d1 := hI.d1
          have d2 := hI.d2
          have d3 := hI.d3
          go_wp2_with fail
          go_ret
          exact ⟨rfl, hI.below⟩
      · have HE := Lib.hid (show indB l m = false by unfold indB; rw [h1, h2, h3]; rfl)
        rw [HE.out]
        rw [h3] at H1
        clear h3
        go_enter Try.func82, Try.ntmps82
        go_wp2_with fail
        refine (H1.out _).mono ?_
        rintro e wa ⟨rfl, hBa⟩
        replace hI := hI.low hBa (.inl rfl)
        clear hBa
        clear c0 c1 c2 c3 d0 d1 d2 d3
        have c0 := hI.c0
        have c1 := hI.c1
        have c2 := hI.c2
        have c3 := hI.c3
        have d0 := hI.d0
        have d1 := hI.d1
        have d2 := hI.d2
        have d3 := hI.d3
        go_wp2_with fail
        go_ret
        exact ⟨rfl, hI.below⟩

/-- firstError of the two numbers that a region has just laid. -/
theorem firstError_at (b : Nat) (W : World) (c d : Int) (h : IntsAt W (some ⟨b, 0, none⟩) [c, d]) : Calls Try.prog 80 #[.slice (some ⟨b, 0, none⟩) 2 2] W fun e w' => e = .returned (.int .i64 (fe c d)) ∧ W = w' := by
  rw [← feL_two]
  exact firstError_any _ 2 [c, d] W h (by simp)

set_option maxRecDepth 100000 in
set_option maxHeartbeats 1000000 in
theorem independent_A (l m : L) (w : World) : Calls Try.prog 45 #[.agg #[.int .i64 l.op, .int .i64 l.to, .int .i64 l.a, .int .i64 l.b], .agg #[.int .i64 m.op, .int .i64 m.to, .int .i64 m.a, .int .i64 m.b]] w fun e w' => e = .returned (.tuple #[.bool (indA l m), .int .i64 (indC l m)]) ∧ Below w.heap.size w w' := by
  have H1 := Lib.hid (fun w => validateLine_any l w)
  have H2 := Lib.hid (fun w => validateLine_any m w)
  have HA := Lib.hid (fun (h : isLn l = true) (h' : isLn m = true) w => areIndependent_any l m w h h')
  unfold lv at H1 H2
  have hI := TwoI.new l m w
  have c0 := hI.c0
  have c1 := hI.c1
  have c2 := hI.c2
  have c3 := hI.c3
  have d0 := hI.d0
  have d1 := hI.d1
  have d2 := hI.d2
  have d3 := hI.d3
  go_enter Try.func45, Try.ntmps45
  go_upto_region 1 with fail
  go_cut [6] (fun s6 wx => s6 = .int .i64 (indC l m) ∧ TwoI w.heap.size (w.heap.size + 1) l m w wx)
  case first =>
    go_region_with (first | (go_at_call_of 34 (Value.agg #[.int .i64 l.op, .int .i64 l.to, .int .i64 l.a, .int .i64 l.b]); refine (H1.out _).mono ?_; rintro e wa ⟨rfl, hBa⟩; replace hI := hI.low hBa (by first | exact .inl rfl | exact .inr rfl); clear hBa; clear c0 c1 c2 c3 d0 d1 d2 d3; have c0 := hI.c0; have c1 := hI.c1; have c2 := hI.c2; have c3 := hI.c3; have d0 := hI.d0; have d1 := hI.d1; have d2 := hI.d2; have d3 := hI.d3) | (go_at_call_of 34 (Value.agg #[.int .i64 m.op, .int .i64 m.to, .int .i64 m.a, .int .i64 m.b]); refine (H2.out _).mono ?_; rintro e wa ⟨rfl, hBa⟩; replace hI := hI.low hBa (by first | exact .inl rfl | exact .inr rfl); clear hBa; clear c0 c1 c2 c3 d0 d1 d2 d3; have c0 := hI.c0; have c1 := hI.c1; have c2 := hI.c2; have c3 := hI.c3; have d0 := hI.d0; have d1 := hI.d1; have d2 := hI.d2; have d3 := hI.d3) | (go_at_call 80; refine (firstError_at _ _ _ _ (ints_two _ _ _ _)).mono ?_; rintro e wb ⟨rfl, rfl⟩))
    all_goals go_wp2_with fail
    all_goals go_meet
    all_goals refine ⟨rfl, ?_⟩
    all_goals exact hI.low ((Below.refl _ _).alloc (Nat.le_refl _) _) (by first | exact .inl rfl | exact .inr rfl)
  case rest =>
    clear hI c0 c1 c2 c3 d0 d1 d2 d3
    obtain ⟨rfl, hI⟩ := hcut
    have c0 := hI.c0
    have c1 := hI.c1
    have c2 := hI.c2
    have c3 := hI.c3
    have d0 := hI.d0
    have d1 := hI.d1
    have d2 := hI.d2
    have d3 := hI.d3
    by_cases hz : indC l m = 0
    · have hv : isLn l = true ∧ isLn m = true := by
        unfold indC at hz
        rcases vl_cases l with ⟨h, h2⟩ | ⟨h, h2⟩ <;> rcases vl_cases m with ⟨h', h2'⟩ | ⟨h', h2'⟩ <;> rw [h2, h2'] at hz
        · exact ⟨h, h'⟩
        · simp [fe] at hz
        · simp [fe] at hz
        · simp [fe] at hz
      have HB := Lib.hid (HA.out hv.1 hv.2)
      have HE := Lib.hid (show indA l m = indB l m by unfold indA; rw [hv.1, hv.2]; rfl)
      have HZ := Lib.hid hz
      have hz1 : (indC l m != 0) = false := by simp [hz]
      have hz2 : (indC l m == 0) = true := by simp [hz]
      clear hz hv
      go_wp2_with fail
      refine (HB.out _).mono ?_
      rintro e wa ⟨rfl, hBa⟩
      replace hI := hI.low hBa (.inl rfl)
      clear c0 c1 c2 c3 d0 d1 d2 d3
      go_wp2_with fail
      go_ret2
      exact ⟨by rw [HE.out, HZ.out]; rfl, hI.below⟩
    · have HE := Lib.hid (show indA l m = false by
        unfold indC at hz
        unfold indA
        rcases vl_cases l with ⟨h, h2⟩ | ⟨h, h2⟩ <;> rcases vl_cases m with ⟨h', h2'⟩ | ⟨h', h2'⟩ <;> rw [h2, h2'] at hz
        · exact absurd rfl hz
        · rw [h, h']; rfl
        · rw [h]; rfl
        · rw [h]; rfl)
      have hz1 : (indC l m != 0) = true := by simpa using hz
      have hz2 : (indC l m == 0) = false := by simpa using hz
      clear hz
      go_wp2_with fail
      go_ret2
      exact ⟨by rw [HE.out]; rfl, hI.below⟩

end Go.Proofs.Ytmideaancmpafaa
