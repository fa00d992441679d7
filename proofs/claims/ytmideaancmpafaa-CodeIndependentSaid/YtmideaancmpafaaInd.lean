/- CodeIndependent: the walk. -/
import Derived.Test.YtmideaancmpafaaIndC
set_option linter.unusedVariables false
set_option linter.unusedSimpArgs false
namespace Go.Proofs.Ytmideaancmpafaa
open Go.RowKit Tinker

set_option maxRecDepth 100000 in
set_option maxHeartbeats 1000000 in
theorem codeIndependent_walk (l m : L) (w : World) : Calls Try.prog 11 #[lv l, lv m] w fun e w' => e = .returned (.bool true) ∧ Below w.heap.size w w' := by
  have H1 := Lib.hid (fun w => independent_A l m w)
  have H2 := Lib.hid (fun w => rIndependent_A l m w)
  have H3 := Lib.hid (fun w => independent_A m l w)
  rw [indA_comm m l, indC_comm m l] at H3
  unfold lv
  have hI := TwoI.new l m w
  have c0 := hI.c0
  have c1 := hI.c1
  have c2 := hI.c2
  have c3 := hI.c3
  have d0 := hI.d0
  have d1 := hI.d1
  have d2 := hI.d2
  have d3 := hI.d3
  generalize indA l m = x at H1 H2 H3
  generalize indC l m = c at H1 H2 H3
  have hx1 : (x != x) = false := by simp
  have hc1 : (c != c) = false := by simp
  have hx2 : (x == x) = true := by simp
  have hc2 : (c == c) = true := by simp
  go_enter Try.func11, Try.ntmps11
  go_wp2_with fail
  refine (H1.out _).mono ?_
  rintro e wa ⟨rfl, hBa⟩
  replace hI := hI.low hBa (.inl rfl)
  clear hBa
  clear c0 c1 c2 c3 d0 d1 d2 d3
  have c0 := hI.c0
  have c1 := hI.c1
  have c2 := hI.c2
  have c3 := hI.c3
  have d0 := hI.d0
  have d1 := hI.d1
  have d2 := hI.d2
  have d3 := hI.d3
  go_wp2_with fail
  refine (H2.out _).mono ?_
  rintro e wa ⟨rfl, hBa⟩
  replace hI := hI.low hBa (.inl rfl)
  clear hBa
  clear c0 c1 c2 c3 d0 d1 d2 d3
  have c0 := hI.c0
  have c1 := hI.c1
  have c2 := hI.c2
  have c3 := hI.c3
  have d0 := hI.d0
  have d1 := hI.d1
  have d2 := hI.d2
  have d3 := hI.d3
  go_wp2_with fail
  refine (H3.out _).mono ?_
  rintro e wa ⟨rfl, hBa⟩
  replace hI := hI.low hBa (.inl rfl)
  clear hBa
  clear c0 c1 c2 c3 d0 d1 d2 d3
  have c0 := hI.c0
  have c1 := hI.c1
  have c2 := hI.c2
  have c3 := hI.c3
  have d0 := hI.d0
  have d1 := hI.d1
  have d2 := hI.d2
  have d3 := hI.d3
  go_wp2_with fail
  refine (known_true _).mono ?_
  rintro e wa ⟨rfl, hBa⟩
  replace hI := hI.low hBa (.inl rfl)
  clear hBa
  clear c0 c1 c2 c3 d0 d1 d2 d3
  have c0 := hI.c0
  have c1 := hI.c1
  have c2 := hI.c2
  have c3 := hI.c3
  have d0 := hI.d0
  have d1 := hI.d1
  have d2 := hI.d2
  have d3 := hI.d3
  go_wp2_with fail
  go_ret
  exact ⟨rfl, hI.below⟩

end Go.Proofs.Ytmideaancmpafaa
