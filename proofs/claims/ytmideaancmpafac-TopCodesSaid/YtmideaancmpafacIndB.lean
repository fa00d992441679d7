/- Independent: contracts. -/
import Derived.Test.YtmideaancmpafacIndA
set_option linter.unusedVariables false
set_option linter.unusedSimpArgs false
namespace Go.Proofs.Ytmideaancmpafac
open Go.RowKit Tinker

set_option maxRecDepth 100000 in
set_option maxHeartbeats 1000000 in
theorem areIndependent_any (l m : L) (w : World) (hl : isLn l = true) (hm : isLn m = true) : Calls Try.prog 78 #[.agg #[.int .i64 l.op, .int .i64 l.to, .int .i64 l.a, .int .i64 l.b], .agg #[.int .i64 m.op, .int .i64 m.to, .int .i64 m.a, .int .i64 m.b]] w fun e w' => e = .returned (.bool (indB l m)) ∧ Below w.heap.size w w' := by
  have H1 := Lib.hid (fun w => disturbs_any l m w hl hm)
  have H2 := Lib.hid (fun w => disturbs_any m l w hm hl)
  unfold lv at H1 H2
  have hI := TwoI.new l m w
  have c0 := hI.c0
  have c1 := hI.c1
  have c2 := hI.c2
  have c3 := hI.c3
  have d0 := hI.d0
  have d1 := hI.d1
  have d2 := hI.d2
  have d3 := hI.d3
  cases h1 : (l.op != 7)
  · have e1 : (l.op == 7) = true := by simpa using h1
    have HE := Lib.hid (show indB l m = false by unfold indB; rw [h1]; rfl)
    rw [HE.out]
    go_enter Try.func78, Try.ntmps78
    go_wp2_with fail
    go_ret
    exact ⟨rfl, hI.below⟩
  · have e1 : (l.op == 7) = false := by simpa using h1
    cases h2 : (m.op != 7)
    · have e2 : (m.op == 7) = true := by simpa using h2
      have HE := Lib.hid (show indB l m = false by unfold indB; rw [h1, h2]; rfl)
      rw [HE.out]
      go_enter Try.func78, Try.ntmps78
      go_wp2_with fail
      go_ret
      exact ⟨rfl, hI.below⟩
    · have e2 : (m.op == 7) = false := by simpa using h2
      cases h3 : distB l m
      · cases h4 : distB m l
        · have HE := Lib.hid (show indB l m = true by unfold indB; rw [h1, h2, h3, h4]; rfl)
          rw [HE.out]
          rw [h3] at H1
          rw [h4] at H2
          clear h3 h4
          go_enter Try.func78, Try.ntmps78
          go_wp2_with fail
          refine (H1.out _).mono ?_
          rintro e wa ⟨rfl, hBa⟩
          replace hI := hI.low hBa (.inl rfl)
          clear hBa
          clear c0 c1 c2 c3 d0 d1 d2 d3
          have c0 := hI.c0
          have c1 := hI.c1
          have c2 := hI.c2
          have c3 := hI.c3
          have d0 := hI.d0
          have d1 := hI.d1
          have d2 := hI.d2
          have d3 := hI.d3
          go_wp2_with fail
          refine (H2.out _).mono ?_
          rintro e wa ⟨rfl, hBa⟩
          replace hI := hI.low hBa (.inl rfl)
          clear hBa
          clear c0 c1 c2 c3 d0 d1 d2 d3
          have c0 := hI.c0
          have c1 := hI.c1
          have c2 := hI.c2
          have c3 := hI.c3
          have d0 := hI.d0
          have d1 := hI.d1
          have d2 := hI.d2
          have d3 := hI.d3
          go_wp2_with fail
          go_ret
          exact ⟨rfl, hI.below⟩
        · have HE := Lib.hid (show indB l m = false by unfold indB; rw [h1, h2, h3, h4]; rfl)
          rw [HE.out]
          rw [h3] at H1
          rw [h4] at H2
          clear h3 h4
          go_enter Try.func78, Try.ntmps78
          go_wp2_with fail
          refine (H1.out _).mono ?_
          rintro e wa ⟨rfl, hBa⟩
          replace hI := hI.low hBa (.inl rfl)
          clear hBa
          clear c0 c1 c2 c3 d0 d1 d2 d3
          have c0 := hI.c0
          have c1 := hI.c1
          have c2 := hI.c2
          have c3 := hI.c3
          have d0 := hI.d0
          have d1 := hI.d1
          have d2 := hI.d2
          have d3 := hI.d3
          go_wp2_with fail
          refine (H2.out _).mono ?_
          rintro e wa ⟨rfl, hBa⟩
          replace hI := hI.low hBa (.inl rfl)
          clear hBa
          clear c0 c1 c2 c3 d0 d1 d2 d3
          have c0 := hI.c0
          have c1 := hI.c1
          have c2 := hI.c2
          have c3 := hI.c3
          have d0 := hI.d0
          have d1 := hI.d1
          have d2 := hI.d2
          have d3 := hI.d3
          go_wp2_with fail
          go_ret
          exact ⟨rfl, hI.below⟩
      · have HE := Lib.hid (show indB l m = false by unfold indB; rw [h1, h2, h3]; rfl)
        rw [HE.out]
        rw [h3] at H1
        clear h3
        go_enter Try.func78, Try.ntmps78
        go_wp2_with fail
        refine (H1.out _).mono ?_
        rintro e wa ⟨rfl, hBa⟩
        replace hI := hI.low hBa (.inl rfl)
        clear hBa
        clear c0 c1 c2 c3 d0 d1 d2 d3
        have c0 := hI.c0
        have c1 := hI.c1
        have c2 := hI.c2
        have c3 := hI.c3
        have d0 := hI.d0
        have d1 := hI.d1
        have d2 := hI.d2
        have d3 := hI.d3
        go_wp2_with fail
        go_ret
        exact ⟨rfl, hI.below⟩

/-- firstError of the two numbers that a region has just laid. -/
theorem firstError_at (b : Nat) (W : World) (c d : Int) (h : IntsAt W (some ⟨b, 0, none⟩) [c, d]) : Calls Try.prog 33 #[.slice (some ⟨b, 0, none⟩) 2 2] W fun e w' => e = .returned (.int .i64 (fe c d)) ∧ W = w' := by
  rw [← feL_two]
  exact firstError_any _ 2 [c, d] W h (by simp)

end Go.Proofs.Ytmideaancmpafac
