/- Independent of the document's answers: contracts. -/
import Derived.Test.YtmideaancmpafaaIndB
set_option linter.unusedVariables false
set_option linter.unusedSimpArgs false
namespace Go.Proofs.Ytmideaancmpafaa
open Go.RowKit Tinker

/-- Whether a line reads or writes a register. -/
def touB (m : L) (r : Int) : Bool := (rd m).getD r.toNat false || (Tinker.wr m && m.to == r)

/-- A line in its box. -/
structure OneI (x : Nat) (m : L) (w W : World) : Prop where
  bm : W.heap[x]? = some (.cells #[.int .i64 m.op, .int .i64 m.to, .int .i64 m.a, .int .i64 m.b] 40 (0, 0))
  below : Below w.heap.size w W
theorem OneI.low {x : Nat} {m : L} {w W W' : World} (h : OneI x m w W) (hb : Below W.heap.size W W') : OneI x m w W' := ⟨hp_below h.bm hb (hp_lt h.bm), h.below.trans (hb.mono h.below.size)⟩
theorem OneI.new (m : L) (w : World) : OneI w.heap.size m w (w.alloc (.cells #[.int .i64 m.op, .int .i64 m.to, .int .i64 m.a, .int .i64 m.b] 40)) := ⟨hp_new rfl, (Below.refl _ _).alloc (Nat.le_refl _) _⟩
theorem OneI.d0 {x : Nat} {m : L} {w W : World} (h : OneI x m w W) : W.cell? ⟨x, 0, none⟩ = some (.int .i64 m.op) := hp_cell h.bm (by rfl)
theorem OneI.d1 {x : Nat} {m : L} {w W : World} (h : OneI x m w W) : W.cell? ⟨x, 1, none⟩ = some (.int .i64 m.to) := hp_cell h.bm (by rfl)
theorem OneI.d2 {x : Nat} {m : L} {w W : World} (h : OneI x m w W) : W.cell? ⟨x, 2, none⟩ = some (.int .i64 m.a) := hp_cell h.bm (by rfl)
theorem OneI.d3 {x : Nat} {m : L} {w W : World} (h : OneI x m w W) : W.cell? ⟨x, 3, none⟩ = some (.int .i64 m.b) := hp_cell h.bm (by rfl)

set_option maxRecDepth 100000 in
set_option maxHeartbeats 1000000 in
theorem touches_any (m : L) (r : Int) (w : World) (hm : isLn m = true) (r0 : 0 ≤ r) (r3 : r ≤ 3) : Calls Try.prog 98 #[.agg #[.int .i64 m.op, .int .i64 m.to, .int .i64 m.a, .int .i64 m.b], .int .i64 r] w fun e w' => e = .returned (.bool (touB m r)) ∧ Below w.heap.size w w' := by
  have HR := Lib.hid (fun w => rReads_any m w hm)
  have HW := Lib.hid (fun w => rWrites_any m w)
  unfold lv at HR HW
  have hI := OneI.new m w
  have r4 : r < 4 := by omega
  have d0 := hI.d0
  have d1 := hI.d1
  have d2 := hI.d2
  have d3 := hI.d3
  go_enter Try.func98, Try.ntmps98
  go_wp2_with fail
  refine (HR.out _).mono ?_
  intro e wa hG
  obtain ⟨b, rfl, hb, hlb, hBa⟩ := hG
  replace hI := hI.low hBa
  clear hBa d0 d1 d2 d3 hlb
  have d0 := hI.d0
  have d1 := hI.d1
  have d2 := hI.d2
  have d3 := hI.d3
  have g1 := hp_cell hb (bv_get (rd m) r.toNat (by rw [rd_length]; omega))
  generalize hx : (rd m).getD r.toNat false = x at g1
  cases x
  · go_wp2_with fail
    refine (HW.out _).mono ?_
    rintro e wb ⟨rfl, hBb⟩
    replace hI := hI.low hBb
    clear hBb d0 d1 d2 d3 g1 hb
    have d0 := hI.d0
    have d1 := hI.d1
    have d2 := hI.d2
    have d3 := hI.d3
    cases hw : Tinker.wr m
    · have HE := Lib.hid (show touB m r = false by unfold touB; rw [hx, hw]; rfl)
      clear hx hw
      go_wp2_with fail
      go_ret
      exact ⟨by rw [HE.out]; rfl, hI.below⟩
    · have HE := Lib.hid (show touB m r = (m.to == r) by unfold touB; rw [hx, hw]; rfl)
      clear hx hw
      go_wp2_with fail
      go_ret
      exact ⟨by rw [HE.out]; rfl, hI.below⟩
  · have HE := Lib.hid (show touB m r = true by unfold touB; rw [hx]; rfl)
    clear hx hb
    go_wp2_with fail
    go_ret
    exact ⟨by rw [HE.out]; rfl, hI.below⟩

theorem distB_tou (l m : L) : distB l m = (Tinker.wr l && touB m l.to) := rfl

set_option maxRecDepth 100000 in
set_option maxHeartbeats 2000000 in
theorem rIndependent_any (l m : L) (w : World) (hl : isLn l = true) (hm : isLn m = true) : Calls Try.prog 83 #[.agg #[.int .i64 l.op, .int .i64 l.to, .int .i64 l.a, .int .i64 l.b], .agg #[.int .i64 m.op, .int .i64 m.to, .int .i64 m.a, .int .i64 m.b]] w fun e w' => e = .returned (.bool (indB l m)) ∧ Below w.heap.size w w' := by
  have HWl := Lib.hid (fun w => rWrites_any l w)
  have HWm := Lib.hid (fun w => rWrites_any m w)
  have HTm := Lib.hid (fun (h : Tinker.wr l = true) w => touches_any m l.to w hm (wr_to hl h).1 (wr_to hl h).2)
  have HTl := Lib.hid (fun (h : Tinker.wr m = true) w => touches_any l m.to w hl (wr_to hm h).1 (wr_to hm h).2)
  unfold lv at HWl HWm
  have hI := TwoI.new l m w
  have c0 := hI.c0
  have c1 := hI.c1
  have c2 := hI.c2
  have c3 := hI.c3
  have d0 := hI.d0
  have d1 := hI.d1
  have d2 := hI.d2
  have d3 := hI.d3
  cases h1 : (l.op != 7)
  · have e1 : (l.op == 7) = true := by simpa using h1
    have HE := Lib.hid (show indB l m = false by unfold indB; rw [h1]; rfl)
    rw [HE.out]
    go_enter Try.func83, Try.ntmps83
    go_wp2_with fail
    go_ret
    exact ⟨rfl, hI.below⟩
  · have e1 : (l.op == 7) = false := by simpa using h1
    cases h2 : (m.op != 7)
    · have e2 : (m.op == 7) = true := by simpa using h2
      have HE := Lib.hid (show indB l m = false by unfold indB; rw [h1, h2]; rfl)
      rw [HE.out]
      go_enter Try.func83, Try.ntmps83
      go_wp2_with fail
      go_ret
      exact ⟨rfl, hI.below⟩
    · have e2 : (m.op == 7) = false := by simpa using h2
      have HB := Lib.hid (show indB l m = (!distB l m && !distB m l) by unfold indB; rw [h1, h2]; rfl)
      cases hw1 : Tinker.wr l
      · rw [hw1] at HWl
        cases hw2 : Tinker.wr m
        · rw [hw2] at HWm
          have HE := Lib.hid (show indB l m = true by rw [HB.out, distB_tou, distB_tou, hw1, hw2]; rfl)
          rw [HE.out]
          clear hw1 hw2
          go_enter Try.func83, Try.ntmps83
          go_wp2_with fail
          refine (HWl.out _).mono ?_
          rintro e wa ⟨rfl, hBa⟩
          replace hI := hI.low hBa (.inl rfl)
          clear hBa
          clear c0 c1 c2 c3 d0 d1 d2 d3
          have c0 := hI.c0
          have c1 := hI.c1
          have c2 := hI.c2
          have c3 := hI.c3
          have d0 := hI.d0
          have d1 := hI.d1
          have d2 := hI.d2
          have d3 := hI.d3
          go_wp2_with fail
          refine (HWm.out _).mono ?_
          rintro e wa ⟨rfl, hBa⟩
          replace hI := hI.low hBa (.inl rfl)
          clear hBa
          clear c0 c1 c2 c3 d0 d1 d2 d3
          have c0 := hI.c0
          have c1 := hI.c1
          have c2 := hI.c2
          have c3 := hI.c3
          have d0 := hI.d0
          have d1 := hI.d1
          have d2 := hI.d2
          have d3 := hI.d3
          go_wp2_with fail
          go_ret
          exact ⟨rfl, hI.below⟩
        · rw [hw2] at HWm
          have HT := Lib.hid (HTl.out hw2)
          have HE := Lib.hid (show indB l m = !touB l m.to by rw [HB.out, distB_tou, distB_tou, hw1, hw2]; rfl)
          rw [HE.out]
          clear hw1 hw2
          generalize touB l m.to = x at HT
          go_enter Try.func83, Try.ntmps83
          go_wp2_with fail
          refine (HWl.out _).mono ?_
          rintro e wa ⟨rfl, hBa⟩
          replace hI := hI.low hBa (.inl rfl)
          clear hBa
          clear c0 c1 c2 c3 d0 d1 d2 d3
          have c0 := hI.c0
          have c1 := hI.c1
          have c2 := hI.c2
          have c3 := hI.c3
          have d0 := hI.d0
          have d1 := hI.d1
          have d2 := hI.d2
          have d3 := hI.d3
          go_wp2_with fail
          refine (HWm.out _).mono ?_
          rintro e wa ⟨rfl, hBa⟩
          replace hI := hI.low hBa (.inl rfl)
          clear hBa
          clear c0 c1 c2 c3 d0 d1 d2 d3
          have c0 := hI.c0
          have c1 := hI.c1
          have c2 := hI.c2
          have c3 := hI.c3
          have d0 := hI.d0
          have d1 := hI.d1
          have d2 := hI.d2
          have d3 := hI.d3
          go_wp2_with fail
          refine (HT.out _).mono ?_
          rintro e wa ⟨rfl, hBa⟩
          replace hI := hI.low hBa (.inl rfl)
          clear hBa
          clear c0 c1 c2 c3 d0 d1 d2 d3
          have c0 := hI.c0
          have c1 := hI.c1
          have c2 := hI.c2
          have c3 := hI.c3
          have d0 := hI.d0
          have d1 := hI.d1
          have d2 := hI.d2
          have d3 := hI.d3
          go_wp2_with fail
          go_ret
          exact ⟨rfl, hI.below⟩
      · rw [hw1] at HWl
        have HT1 := Lib.hid (HTm.out hw1)
        cases ht : touB m l.to
        · rw [ht] at HT1
          cases hw2 : Tinker.wr m
          · rw [hw2] at HWm
            have HE := Lib.hid (show indB l m = true by rw [HB.out, distB_tou, distB_tou, hw1, hw2, ht]; rfl)
            rw [HE.out]
            clear hw1 hw2 ht
            go_enter Try.func83, Try.ntmps83
            go_wp2_with fail
            refine (HWl.out _).mono ?_
            rintro e wa ⟨rfl, hBa⟩
            replace hI := hI.low hBa (.inl rfl)
            clear hBa
            clear c0 c1 c2 c3 d0 d1 d2 d3
            have c0 := hI.c0
            have c1 := hI.c1
            have c2 := hI.c2
            have c3 := hI.c3
            have d0 := hI.d0
            have d1 := hI.d1
            have d2 := hI.d2
            have d3 := hI.d3
            go_wp2_with fail
            refine (HT1.out _).mono ?_
            rintro e wa ⟨rfl, hBa⟩
            replace hI := hI.low hBa (.inl rfl)
            clear hBa
            clear c0 c1 c2 c3 d0 d1 d2 d3
            have c0 := hI.c0
            have c1 := hI.c1
            have c2 := hI.c2
            have c3 := hI.c3
            have d0 := hI.d0
            have d1 := hI.d1
            have d2 := hI.d2
            have d3 := hI.d3
            go_wp2_with fail
            refine (HWm.out _).mono ?_
            rintro e wa ⟨rfl, hBa⟩
            replace hI := hI.low hBa (.inl rfl)
            clear hBa
            clear c0 c1 c2 c3 d0 d1 d2 d3
            have c0 := hI.c0
            have c1 := hI.c1
            have c2 := hI.c2
            have c3 := hI.c3
            have d0 := hI.d0
            have d1 := hI.d1
            have d2 := hI.d2
            have d3 := hI.d3
            go_wp2_with fail
            go_ret
            exact ⟨rfl, hI.below⟩
          · rw [hw2] at HWm
            have HT := Lib.hid (HTl.out hw2)
            have HE := Lib.hid (show indB l m = !touB l m.to by rw [HB.out, distB_tou, distB_tou, hw1, hw2, ht]; rfl)
            rw [HE.out]
            clear hw1 hw2 ht
            generalize touB l m.to = x at HT
            go_enter Try.func83, Try.ntmps83
            go_wp2_with fail
            refine (HWl.out _).mono ?_
            rintro e wa ⟨rfl, hBa⟩
            replace hI := hI.low hBa (.inl rfl)
            clear hBa
            clear c0 c1 c2 c3 d0 d1 d2 d3
            have c0 := hI.c0
            have c1 := hI.c1
            have c2 := hI.c2
            have c3 := hI.c3
            have d0 := hI.d0
            have d1 := hI.d1
            have d2 := hI.d2
            have d3 := hI.d3
            go_wp2_with fail
            refine (HT1.out _).mono ?_
            rintro e wa ⟨rfl, hBa⟩
            replace hI := hI.low hBa (.inl rfl)
            clear hBa
            clear c0 c1 c2 c3 d0 d1 d2 d3
            have c0 := hI.c0
            have c1 := hI.c1
            have c2 := hI.c2
            have c3 := hI.c3
            have d0 := hI.d0
            have d1 := hI.d1
            have d2 := hI.d2
            have d3 := hI.d3
            go_wp2_with fail
            refine (HWm.out _).mono ?_
            rintro e wa ⟨rfl, hBa⟩
            replace hI := hI.low hBa (.inl rfl)
            clear hBa
            clear c0 c1 c2 c3 d0 d1 d2 d3
            have c0 := hI.c0
            have c1 := hI.c1
            have c2 := hI.c2
            have c3 := hI.c3
            have d0 := hI.d0
            have d1 := hI.d1
            have d2 := hI.d2
            have d3 := hI.d3
            go_wp2_with fail
            refine (HT.out _).mono ?_
            rintro e wa ⟨rfl, hBa⟩
            replace hI := hI.low hBa (.inl rfl)
            clear hBa
            clear c0 c1 c2 c3 d0 d1 d2 d3
            have c0 := hI.c0
            have c1 := hI.c1
            have c2 := hI.c2
            have c3 := hI.c3
            have d0 := hI.d0
            have d1 := hI.d1
            have d2 := hI.d2
            have d3 := hI.d3
            go_wp2_with fail
            go_ret
            exact ⟨rfl, hI.below⟩
        · rw [ht] at HT1
          have HE := Lib.hid (show indB l m = false by rw [HB.out, distB_tou, distB_tou, hw1, ht]; rfl)
          rw [HE.out]
          clear hw1 ht
          go_enter Try.func83, Try.ntmps83
          go_wp2_with fail
          refine (HWl.out _).mono ?_
          rintro e wa ⟨rfl, hBa⟩
          replace hI := hI.low hBa (.inl rfl)
          clear hBa
          clear c0 c1 c2 c3 d0 d1 d2 d3
          have c0 := hI.c0
          have c1 := hI.c1
          have c2 := hI.c2
          have c3 := hI.c3
          have d0 := hI.d0
          have d1 := hI.d1
          have d2 := hI.d2
          have d3 := hI.d3
          go_wp2_with fail
          refine (HT1.out _).mono ?_
          rintro e wa ⟨rfl, hBa⟩
          replace hI := hI.low hBa (.inl rfl)
          clear hBa
          clear c0 c1 c2 c3 d0 d1 d2 d3
          have c0 := hI.c0
          have c1 := hI.c1
          have c2 := hI.c2
          have c3 := hI.c3
          have d0 := hI.d0
          have d1 := hI.d1
          have d2 := hI.d2
          have d3 := hI.d3
          go_wp2_with fail
          go_ret
          exact ⟨rfl, hI.below⟩

set_option maxRecDepth 100000 in
set_option maxHeartbeats 1000000 in
theorem rIndependent_A (l m : L) (w : World) : Calls Try.prog 46 #[.agg #[.int .i64 l.op, .int .i64 l.to, .int .i64 l.a, .int .i64 l.b], .agg #[.int .i64 m.op, .int .i64 m.to, .int .i64 m.a, .int .i64 m.b]] w fun e w' => e = .returned (.tuple #[.bool (indA l m), .int .i64 (indC l m)]) ∧ Below w.heap.size w w' := by
  have H1 := Lib.hid (fun w => rIsLine_any l w)
  have H2 := Lib.hid (fun w => rIsLine_any m w)
  have HA := Lib.hid (fun (h : isLn l = true) (h' : isLn m = true) w => rIndependent_any l m w h h')
  unfold lv at H1 H2
  have hI := TwoI.new l m w
  have c0 := hI.c0
  have c1 := hI.c1
  have c2 := hI.c2
  have c3 := hI.c3
  have d0 := hI.d0
  have d1 := hI.d1
  have d2 := hI.d2
  have d3 := hI.d3
  cases hl : isLn l
  · have HE := Lib.hid (show indA l m = false ∧ indC l m = 1 by unfold indA indC vl; rw [hl]; exact ⟨rfl, rfl⟩)
    rw [hl] at H1
    rw [HE.out.1, HE.out.2]
    clear hl
    go_enter Try.func46, Try.ntmps46
    go_wp2_with fail
    refine (H1.out _).mono ?_
    rintro e wa ⟨rfl, hBa⟩
    replace hI := hI.low hBa (.inl rfl)
    clear hBa
    clear c0 c1 c2 c3 d0 d1 d2 d3
    have c0 := hI.c0
    have c1 := hI.c1
    have c2 := hI.c2
    have c3 := hI.c3
    have d0 := hI.d0
    have d1 := hI.d1
    have d2 := hI.d2
    have d3 := hI.d3
    go_wp2_with fail
    go_ret2
    exact ⟨rfl, hI.below⟩
  · rw [hl] at H1
    cases hm : isLn m
    · have HE := Lib.hid (show indA l m = false ∧ indC l m = 1 by unfold indA indC vl; rw [hl, hm]; exact ⟨rfl, rfl⟩)
      rw [hm] at H2
      rw [HE.out.1, HE.out.2]
      clear hl hm
      go_enter Try.func46, Try.ntmps46
      go_wp2_with fail
      refine (H1.out _).mono ?_
      rintro e wa ⟨rfl, hBa⟩
      replace hI := hI.low hBa (.inl rfl)
      clear hBa
      clear c0 c1 c2 c3 d0 d1 d2 d3
      have c0 := hI.c0
      have c1 := hI.c1
      have c2 := hI.c2
      have c3 := hI.c3
      have d0 := hI.d0
      have d1 := hI.d1
      have d2 := hI.d2
      have d3 := hI.d3
      go_wp2_with fail
      refine (H2.out _).mono ?_
      rintro e wa ⟨rfl, hBa⟩
      replace hI := hI.low hBa (.inl rfl)
      clear hBa
      clear c0 c1 c2 c3 d0 d1 d2 d3
      have c0 := hI.c0
      have c1 := hI.c1
      have c2 := hI.c2
      have c3 := hI.c3
      have d0 := hI.d0
      have d1 := hI.d1
      have d2 := hI.d2
      have d3 := hI.d3
      go_wp2_with fail
      go_ret2
      exact ⟨rfl, hI.below⟩
    · have HE := Lib.hid (show indA l m = indB l m ∧ indC l m = 0 by unfold indA indC vl; rw [hl, hm]; exact ⟨rfl, rfl⟩)
      rw [hm] at H2
      have HI := Lib.hid (HA.out hl hm)
      rw [HE.out.1, HE.out.2]
      clear hl hm
      go_enter Try.func46, Try.ntmps46
      go_wp2_with fail
      refine (H1.out _).mono ?_
      rintro e wa ⟨rfl, hBa⟩
      replace hI := hI.low hBa (.inl rfl)
      clear hBa
      clear c0 c1 c2 c3 d0 d1 d2 d3
      have c0 := hI.c0
      have c1 := hI.c1
      have c2 := hI.c2
      have c3 := hI.c3
      have d0 := hI.d0
      have d1 := hI.d1
      have d2 := hI.d2
      have d3 := hI.d3
      go_wp2_with fail
      refine (H2.out _).mono ?_
      rintro e wa ⟨rfl, hBa⟩
      replace hI := hI.low hBa (.inl rfl)
      clear hBa
      clear c0 c1 c2 c3 d0 d1 d2 d3
      have c0 := hI.c0
      have c1 := hI.c1
      have c2 := hI.c2
      have c3 := hI.c3
      have d0 := hI.d0
      have d1 := hI.d1
      have d2 := hI.d2
      have d3 := hI.d3
      go_wp2_with fail
      refine (HI.out _).mono ?_
      rintro e wa ⟨rfl, hBa⟩
      replace hI := hI.low hBa (.inl rfl)
      clear hBa
      clear c0 c1 c2 c3 d0 d1 d2 d3
      have c0 := hI.c0
      have c1 := hI.c1
      have c2 := hI.c2
      have c3 := hI.c3
      have d0 := hI.d0
      have d1 := hI.d1
      have d2 := hI.d2
      have d3 := hI.d3
      go_wp2_with fail
      go_ret2
      exact ⟨rfl, hI.below⟩

end Go.Proofs.Ytmideaancmpafaa
