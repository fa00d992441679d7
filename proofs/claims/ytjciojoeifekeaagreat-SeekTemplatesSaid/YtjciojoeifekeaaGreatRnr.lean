/- near of the document (package tinkerref05): contract. -/
import Derived.Test.YtjciojoeifekeaaGreatCnL
import Derived.Test.YtjciojoeifekeaaGreatSkA
import Derived.Test.YtjciojoeifekeaaGreatSz4
set_option linter.unusedVariables false
set_option linter.unusedSimpArgs false
namespace Go.Proofs.YtjciojoeifekeaaGreat
open Go.RowKit Tinker

set_option maxHeartbeats 1000000 in
theorem mixes_any (n : Int) (w : World) : Calls Tryz.prog 78 #[.int .i64 n] w fun e w' => e = .returned (.bool (mixB n)) ∧ w = w' := by
  unfold mixB
  by_cases h1 : 3 ≤ n
  · have d1 : decide (3 ≤ n) = true := by simpa using h1
    rw [d1]
    go_enter Tryz.func78, Tryz.ntmps78
    go_wp2_with fail
    go_ret
    exact ⟨rfl, rfl⟩
  · have d1 : decide (3 ≤ n) = false := by simpa using h1
    rw [d1]
    go_enter Tryz.func78, Tryz.ntmps78
    go_wp2_with fail
    go_ret
    exact ⟨rfl, rfl⟩

set_option maxRecDepth 100000 in
set_option maxHeartbeats 20000000 in
theorem rnear_any (l m : L) (ww : World) (hl : isLn l = true) (hm : isLn m = true) : Calls Tryz.prog 40 #[lv l, lv m] ww fun e w' => e = .returned (.bool (nearB l m)) ∧ Below ww.heap.size ww w' := by
  obtain ⟨⟨o1, o2⟩, ⟨t1, t2⟩, ⟨a1, a2⟩, ⟨b1, b2⟩⟩ := isLn_bd hl
  obtain ⟨⟨o3, o4⟩, ⟨t3, t4⟩, ⟨a3, a4⟩, ⟨b3, b4⟩⟩ := isLn_bd hm
  clear hl hm
  have hw1 : IntKind.i64.wrap (l.a - m.a) = l.a - m.a := IntWalk.i64_in _ (by omega)
  have hw2 : IntKind.i64.wrap (m.a - l.a) = m.a - l.a := IntWalk.i64_in _ (by omega)
  have hw3 : IntKind.i64.wrap (l.to - m.to) = l.to - m.to := IntWalk.i64_in _ (by omega)
  have hw4 : IntKind.i64.wrap (m.to - l.to) = m.to - l.to := IntWalk.i64_in _ (by omega)
  have HF := Lib.hid (fun w => fields_any l m w)
  have HM1 := Lib.hid (fun w => mixes_any l.op w)
  have HM2 := Lib.hid (fun w => mixes_any m.op w)
  have r1 := run_eqL l m
  obtain ⟨W0, hW0⟩ : ∃ W, W = (ww.alloc (.cells (lV l) 23)).alloc (.cells (lV m) 23) := ⟨_, rfl⟩
  have hb : Below ww.heap.size ww W0 := by rw [hW0]; exact ((Below.refl _ _).alloc (Nat.le_refl _) _).alloc (by simp) _
  have HX1 := Lib.hid (show W0.heap[ww.heap.size]? = some (.cells (lV l) 23 (0, 0)) by rw [hW0]; exact hp_alloc (hp_new rfl))
  have HX2 := Lib.hid (show W0.heap[ww.heap.size + 1]? = some (.cells (lV m) 23 (0, 0)) by rw [hW0]; exact hp_new (by simp))
  have HB := Lib.hid hb
  obtain ⟨x0, x1, x2, x3⟩ := boxL_cells HX1.out
  obtain ⟨y0, y1, y2, y3⟩ := boxL_cells HX2.out
  clear hb
  unfold lv at HF ⊢
  unfold lV at hW0
  cases hq : eqL l m
  rotate_left
  · have HE := Lib.hid (show nearB l m = false by unfold nearB; simp [hq])
    rw [HE.out]
    rw [hq] at r1
    clear hq
    go_enter Tryz.func40, Tryz.ntmps40
    rw [hW0] at x0 x1 x2 x3 y0 y1 y2 y3
    go_wp2_with fail
    rw [← hW0]
    go_ret
    exact ⟨rfl, HB.out⟩
  rw [hq] at r1
  by_cases h0 : l.op = 0
  · have HE := Lib.hid (show nearB l m = false by unfold nearB; simp [h0])
    rw [HE.out]
    have z0 : (l.op == 0) = true := by simpa using h0
    clear hq h0
    go_enter Tryz.func40, Tryz.ntmps40
    rw [hW0] at x0 x1 x2 x3 y0 y1 y2 y3
    go_wp2_with fail
    rw [← hW0]
    go_ret
    exact ⟨rfl, HB.out⟩
  have z0 : (l.op == 0) = false := by simpa using h0
  by_cases k0 : m.op = 0
  · have HE := Lib.hid (show nearB l m = true by unfold nearB; simp [hq, h0, k0])
    rw [HE.out]
    have u0 : (m.op == 0) = true := by simpa using k0
    clear hq h0 k0
    go_enter Tryz.func40, Tryz.ntmps40
    rw [hW0] at x0 x1 x2 x3 y0 y1 y2 y3
    go_wp2_with fail
    rw [← hW0]
    go_ret
    exact ⟨rfl, HB.out⟩
  have u0 : (m.op == 0) = false := by simpa using k0
  by_cases he : m.op = l.op
  rotate_left
  · have ne : (m.op != l.op) = true := by simpa using he
    cases hm1 : mixB l.op
    · have HE := Lib.hid (show nearB l m = false by unfold nearB; simp [hq, h0, k0, he, hm1])
      rw [HE.out]
      rw [hm1] at HM1
      clear hq h0 k0 he hm1
      go_enter Tryz.func40, Tryz.ntmps40
      rw [hW0] at x0 x1 x2 x3 y0 y1 y2 y3
      go_wp2_with fail
      rw [← hW0]
      clear hW0 x0 x1 x2 x3 y0 y1 y2 y3
      refine (HF.out _).mono ?_
      rintro e w1 ⟨rfl, hB⟩
      have HX1 := Lib.hid (hp_below HX1.out hB (hp_lt HX1.out))
      have HX2 := Lib.hid (hp_below HX2.out hB (hp_lt HX2.out))
      have HB := Lib.hid (HB.out.trans (hB.mono HB.out.size))
      clear hB
      obtain ⟨x0, x1, x2, x3⟩ := boxL_cells HX1.out
      obtain ⟨y0, y1, y2, y3⟩ := boxL_cells HX2.out
      go_wp2_with fail
      refine (HM1.out _).mono ?_
      rintro e w2 ⟨rfl, rfl⟩
      go_wp2_with fail
      go_ret
      exact ⟨rfl, HB.out⟩
    cases hm2 : mixB m.op
    · have HE := Lib.hid (show nearB l m = false by unfold nearB; simp [hq, h0, k0, he, hm1, hm2])
      rw [HE.out]
      rw [hm1] at HM1
      rw [hm2] at HM2
      clear hq h0 k0 he hm1 hm2
      go_enter Tryz.func40, Tryz.ntmps40
      rw [hW0] at x0 x1 x2 x3 y0 y1 y2 y3
      go_wp2_with fail
      rw [← hW0]
      clear hW0 x0 x1 x2 x3 y0 y1 y2 y3
      refine (HF.out _).mono ?_
      rintro e w1 ⟨rfl, hB⟩
      have HX1 := Lib.hid (hp_below HX1.out hB (hp_lt HX1.out))
      have HX2 := Lib.hid (hp_below HX2.out hB (hp_lt HX2.out))
      have HB := Lib.hid (HB.out.trans (hB.mono HB.out.size))
      clear hB
      obtain ⟨x0, x1, x2, x3⟩ := boxL_cells HX1.out
      obtain ⟨y0, y1, y2, y3⟩ := boxL_cells HX2.out
      go_wp2_with fail
      refine (HM1.out _).mono ?_
      rintro e w2 ⟨rfl, rfl⟩
      go_wp2_with fail
      refine (HM2.out _).mono ?_
      rintro e w2 ⟨rfl, rfl⟩
      go_wp2_with fail
      go_ret
      exact ⟨rfl, HB.out⟩
    · have HE := Lib.hid (show nearB l m = (dsN l m == 1) by unfold nearB; simp [hq, h0, k0, he, hm1, hm2])
      rw [HE.out]
      rw [hm1] at HM1
      rw [hm2] at HM2
      clear hq h0 k0 he hm1 hm2
      go_enter Tryz.func40, Tryz.ntmps40
      rw [hW0] at x0 x1 x2 x3 y0 y1 y2 y3
      go_wp2_with fail
      rw [← hW0]
      clear hW0 x0 x1 x2 x3 y0 y1 y2 y3
      refine (HF.out _).mono ?_
      rintro e w1 ⟨rfl, hB⟩
      have HX1 := Lib.hid (hp_below HX1.out hB (hp_lt HX1.out))
      have HX2 := Lib.hid (hp_below HX2.out hB (hp_lt HX2.out))
      have HB := Lib.hid (HB.out.trans (hB.mono HB.out.size))
      clear hB
      obtain ⟨x0, x1, x2, x3⟩ := boxL_cells HX1.out
      obtain ⟨y0, y1, y2, y3⟩ := boxL_cells HX2.out
      go_wp2_with fail
      refine (HM1.out _).mono ?_
      rintro e w2 ⟨rfl, rfl⟩
      go_wp2_with fail
      refine (HM2.out _).mono ?_
      rintro e w2 ⟨rfl, rfl⟩
      go_wp2_with fail
      go_ret
      exact ⟨rfl, HB.out⟩
  · have ne : (m.op != l.op) = false := by simpa using he
    by_cases s1 : l.to = m.to
    rotate_left
    · have f1 : (l.to == m.to) = false := by simpa using s1
      have g1 : (l.to != m.to) = true := by simpa using s1
      by_cases hd : dsN l m = 1
      rotate_left
      · have HE := Lib.hid (show nearB l m = false by unfold nearB; simp [hq, h0, k0, he, s1, hd])
        rw [HE.out]
        have dd : (dsN l m != 1) = true := by simpa using hd
        clear hq h0 k0 he s1 hd
        go_enter Tryz.func40, Tryz.ntmps40
        rw [hW0] at x0 x1 x2 x3 y0 y1 y2 y3
        go_wp2_with fail
        rw [← hW0]
        clear hW0 x0 x1 x2 x3 y0 y1 y2 y3
        refine (HF.out _).mono ?_
        rintro e w1 ⟨rfl, hB⟩
        have HX1 := Lib.hid (hp_below HX1.out hB (hp_lt HX1.out))
        have HX2 := Lib.hid (hp_below HX2.out hB (hp_lt HX2.out))
        have HB := Lib.hid (HB.out.trans (hB.mono HB.out.size))
        clear hB
        obtain ⟨x0, x1, x2, x3⟩ := boxL_cells HX1.out
        obtain ⟨y0, y1, y2, y3⟩ := boxL_cells HX2.out
        go_wp2_with fail
        go_ret
        exact ⟨rfl, HB.out⟩
      have dd : (dsN l m != 1) = false := by simpa using hd
      by_cases p1 : l.op = 1
      · have e1 : (l.op == 1) = true := by simpa using p1
        have e7 : (l.op == 7) = false := by rw [p1]; rfl
        by_cases pa : l.a = m.a
        · have HE := Lib.hid (show nearB l m = true by unfold nearB; simp [hq, h0, k0, he, s1, hd, p1, pa])
          rw [HE.out]
          have ea : (l.a != m.a) = false := by simpa using pa
          clear hq h0 k0 he s1 hd p1 pa
          go_enter Tryz.func40, Tryz.ntmps40
          rw [hW0] at x0 x1 x2 x3 y0 y1 y2 y3
          go_wp2_with fail
          rw [← hW0]
          clear hW0 x0 x1 x2 x3 y0 y1 y2 y3
          refine (HF.out _).mono ?_
          rintro e w1 ⟨rfl, hB⟩
          have HX1 := Lib.hid (hp_below HX1.out hB (hp_lt HX1.out))
          have HX2 := Lib.hid (hp_below HX2.out hB (hp_lt HX2.out))
          have HB := Lib.hid (HB.out.trans (hB.mono HB.out.size))
          clear hB
          obtain ⟨x0, x1, x2, x3⟩ := boxL_cells HX1.out
          obtain ⟨y0, y1, y2, y3⟩ := boxL_cells HX2.out
          go_wp2_with fail
          go_ret
          exact ⟨rfl, HB.out⟩
        have ea : (l.a != m.a) = true := by simpa using pa
        by_cases pb : l.a - m.a = 1
        · have HE := Lib.hid (show nearB l m = true by unfold nearB; simp [hq, h0, k0, he, s1, hd, p1, pa, pb])
          rw [HE.out]
          have eb : (l.a - m.a == 1) = true := by simpa using pb
          clear hq h0 k0 he s1 hd p1 pa pb
          go_enter Tryz.func40, Tryz.ntmps40
          rw [hW0] at x0 x1 x2 x3 y0 y1 y2 y3
          go_wp2_with fail
          rw [← hW0]
          clear hW0 x0 x1 x2 x3 y0 y1 y2 y3
          refine (HF.out _).mono ?_
          rintro e w1 ⟨rfl, hB⟩
          have HX1 := Lib.hid (hp_below HX1.out hB (hp_lt HX1.out))
          have HX2 := Lib.hid (hp_below HX2.out hB (hp_lt HX2.out))
          have HB := Lib.hid (HB.out.trans (hB.mono HB.out.size))
          clear hB
          obtain ⟨x0, x1, x2, x3⟩ := boxL_cells HX1.out
          obtain ⟨y0, y1, y2, y3⟩ := boxL_cells HX2.out
          go_wp2_with fail
          go_ret
          exact ⟨rfl, HB.out⟩
        · have HE := Lib.hid (show nearB l m = (m.a - l.a == 1) by unfold nearB; simp [hq, h0, k0, he, s1, hd, p1, pa, pb])
          rw [HE.out]
          have eb : (l.a - m.a == 1) = false := by simpa using pb
          clear hq h0 k0 he s1 hd p1 pa pb
          go_enter Tryz.func40, Tryz.ntmps40
          rw [hW0] at x0 x1 x2 x3 y0 y1 y2 y3
          go_wp2_with fail
          rw [← hW0]
          clear hW0 x0 x1 x2 x3 y0 y1 y2 y3
          refine (HF.out _).mono ?_
          rintro e w1 ⟨rfl, hB⟩
          have HX1 := Lib.hid (hp_below HX1.out hB (hp_lt HX1.out))
          have HX2 := Lib.hid (hp_below HX2.out hB (hp_lt HX2.out))
          have HB := Lib.hid (HB.out.trans (hB.mono HB.out.size))
          clear hB
          obtain ⟨x0, x1, x2, x3⟩ := boxL_cells HX1.out
          obtain ⟨y0, y1, y2, y3⟩ := boxL_cells HX2.out
          go_wp2_with fail
          go_ret
          exact ⟨rfl, HB.out⟩
      have e1 : (l.op == 1) = false := by simpa using p1
      by_cases p7 : l.op = 7
      · have e7 : (l.op == 7) = true := by simpa using p7
        by_cases pb : l.to - m.to = 1
        · have HE := Lib.hid (show nearB l m = true by unfold nearB; simp [hq, h0, k0, he, s1, hd, p7, pb])
          rw [HE.out]
          have eb : (l.to - m.to == 1) = true := by simpa using pb
          clear hq h0 k0 he s1 hd p7 pb p1
          go_enter Tryz.func40, Tryz.ntmps40
          rw [hW0] at x0 x1 x2 x3 y0 y1 y2 y3
          go_wp2_with fail
          rw [← hW0]
          clear hW0 x0 x1 x2 x3 y0 y1 y2 y3
          refine (HF.out _).mono ?_
          rintro e w1 ⟨rfl, hB⟩
          have HX1 := Lib.hid (hp_below HX1.out hB (hp_lt HX1.out))
          have HX2 := Lib.hid (hp_below HX2.out hB (hp_lt HX2.out))
          have HB := Lib.hid (HB.out.trans (hB.mono HB.out.size))
          clear hB
          obtain ⟨x0, x1, x2, x3⟩ := boxL_cells HX1.out
          obtain ⟨y0, y1, y2, y3⟩ := boxL_cells HX2.out
          go_wp2_with fail
          go_ret
          exact ⟨rfl, HB.out⟩
        · have HE := Lib.hid (show nearB l m = (m.to - l.to == 1) by unfold nearB; simp [hq, h0, k0, he, s1, hd, p7, pb])
          rw [HE.out]
          have eb : (l.to - m.to == 1) = false := by simpa using pb
          clear hq h0 k0 he s1 hd p7 pb p1
          go_enter Tryz.func40, Tryz.ntmps40
          rw [hW0] at x0 x1 x2 x3 y0 y1 y2 y3
          go_wp2_with fail
          rw [← hW0]
          clear hW0 x0 x1 x2 x3 y0 y1 y2 y3
          refine (HF.out _).mono ?_
          rintro e w1 ⟨rfl, hB⟩
          have HX1 := Lib.hid (hp_below HX1.out hB (hp_lt HX1.out))
          have HX2 := Lib.hid (hp_below HX2.out hB (hp_lt HX2.out))
          have HB := Lib.hid (HB.out.trans (hB.mono HB.out.size))
          clear hB
          obtain ⟨x0, x1, x2, x3⟩ := boxL_cells HX1.out
          obtain ⟨y0, y1, y2, y3⟩ := boxL_cells HX2.out
          go_wp2_with fail
          go_ret
          exact ⟨rfl, HB.out⟩
      have e7 : (l.op == 7) = false := by simpa using p7
      have HE := Lib.hid (show nearB l m = true by unfold nearB; simp [hq, h0, k0, he, s1, hd, p1, p7])
      rw [HE.out]
      clear hq h0 k0 he s1 hd p1 p7
      go_enter Tryz.func40, Tryz.ntmps40
      rw [hW0] at x0 x1 x2 x3 y0 y1 y2 y3
      go_wp2_with fail
      rw [← hW0]
      clear hW0 x0 x1 x2 x3 y0 y1 y2 y3
      refine (HF.out _).mono ?_
      rintro e w1 ⟨rfl, hB⟩
      have HX1 := Lib.hid (hp_below HX1.out hB (hp_lt HX1.out))
      have HX2 := Lib.hid (hp_below HX2.out hB (hp_lt HX2.out))
      have HB := Lib.hid (HB.out.trans (hB.mono HB.out.size))
      clear hB
      obtain ⟨x0, x1, x2, x3⟩ := boxL_cells HX1.out
      obtain ⟨y0, y1, y2, y3⟩ := boxL_cells HX2.out
      go_wp2_with fail
      go_ret
      exact ⟨rfl, HB.out⟩
    have f1 : (l.to == m.to) = true := by simpa using s1
    have g1 : (l.to != m.to) = false := by simpa using s1
    by_cases s2 : 3 ≤ l.op
    rotate_left
    · have f2 : decide (3 ≤ l.op) = false := by simpa using s2
      by_cases hd : dsN l m = 1
      rotate_left
      · have HE := Lib.hid (show nearB l m = false by unfold nearB; simp [hq, h0, k0, he, s1, s2, hd])
        rw [HE.out]
        have dd : (dsN l m != 1) = true := by simpa using hd
        clear hq h0 k0 he s1 s2 hd
        go_enter Tryz.func40, Tryz.ntmps40
        rw [hW0] at x0 x1 x2 x3 y0 y1 y2 y3
        go_wp2_with fail
        rw [← hW0]
        clear hW0 x0 x1 x2 x3 y0 y1 y2 y3
        refine (HF.out _).mono ?_
        rintro e w1 ⟨rfl, hB⟩
        have HX1 := Lib.hid (hp_below HX1.out hB (hp_lt HX1.out))
        have HX2 := Lib.hid (hp_below HX2.out hB (hp_lt HX2.out))
        have HB := Lib.hid (HB.out.trans (hB.mono HB.out.size))
        clear hB
        obtain ⟨x0, x1, x2, x3⟩ := boxL_cells HX1.out
        obtain ⟨y0, y1, y2, y3⟩ := boxL_cells HX2.out
        go_wp2_with fail
        go_ret
        exact ⟨rfl, HB.out⟩
      have dd : (dsN l m != 1) = false := by simpa using hd
      by_cases p1 : l.op = 1
      · have e1 : (l.op == 1) = true := by simpa using p1
        have e7 : (l.op == 7) = false := by rw [p1]; rfl
        by_cases pa : l.a = m.a
        · have HE := Lib.hid (show nearB l m = true by unfold nearB; simp [hq, h0, k0, he, s1, s2, hd, p1, pa])
          rw [HE.out]
          have ea : (l.a != m.a) = false := by simpa using pa
          clear hq h0 k0 he s1 s2 hd p1 pa
          go_enter Tryz.func40, Tryz.ntmps40
          rw [hW0] at x0 x1 x2 x3 y0 y1 y2 y3
          go_wp2_with fail
          rw [← hW0]
          clear hW0 x0 x1 x2 x3 y0 y1 y2 y3
          refine (HF.out _).mono ?_
          rintro e w1 ⟨rfl, hB⟩
          have HX1 := Lib.hid (hp_below HX1.out hB (hp_lt HX1.out))
          have HX2 := Lib.hid (hp_below HX2.out hB (hp_lt HX2.out))
          have HB := Lib.hid (HB.out.trans (hB.mono HB.out.size))
          clear hB
          obtain ⟨x0, x1, x2, x3⟩ := boxL_cells HX1.out
          obtain ⟨y0, y1, y2, y3⟩ := boxL_cells HX2.out
          go_wp2_with fail
          go_ret
          exact ⟨rfl, HB.out⟩
        have ea : (l.a != m.a) = true := by simpa using pa
        by_cases pb : l.a - m.a = 1
        · have HE := Lib.hid (show nearB l m = true by unfold nearB; simp [hq, h0, k0, he, s1, s2, hd, p1, pa, pb])
          rw [HE.out]
          have eb : (l.a - m.a == 1) = true := by simpa using pb
          clear hq h0 k0 he s1 s2 hd p1 pa pb
          go_enter Tryz.func40, Tryz.ntmps40
          rw [hW0] at x0 x1 x2 x3 y0 y1 y2 y3
          go_wp2_with fail
          rw [← hW0]
          clear hW0 x0 x1 x2 x3 y0 y1 y2 y3
          refine (HF.out _).mono ?_
          rintro e w1 ⟨rfl, hB⟩
          have HX1 := Lib.hid (hp_below HX1.out hB (hp_lt HX1.out))
          have HX2 := Lib.hid (hp_below HX2.out hB (hp_lt HX2.out))
          have HB := Lib.hid (HB.out.trans (hB.mono HB.out.size))
          clear hB
          obtain ⟨x0, x1, x2, x3⟩ := boxL_cells HX1.out
          obtain ⟨y0, y1, y2, y3⟩ := boxL_cells HX2.out
          go_wp2_with fail
          go_ret
          exact ⟨rfl, HB.out⟩
        · have HE := Lib.hid (show nearB l m = (m.a - l.a == 1) by unfold nearB; simp [hq, h0, k0, he, s1, s2, hd, p1, pa, pb])
          rw [HE.out]
          have eb : (l.a - m.a == 1) = false := by simpa using pb
          clear hq h0 k0 he s1 s2 hd p1 pa pb
          go_enter Tryz.func40, Tryz.ntmps40
          rw [hW0] at x0 x1 x2 x3 y0 y1 y2 y3
          go_wp2_with fail
          rw [← hW0]
          clear hW0 x0 x1 x2 x3 y0 y1 y2 y3
          refine (HF.out _).mono ?_
          rintro e w1 ⟨rfl, hB⟩
          have HX1 := Lib.hid (hp_below HX1.out hB (hp_lt HX1.out))
          have HX2 := Lib.hid (hp_below HX2.out hB (hp_lt HX2.out))
          have HB := Lib.hid (HB.out.trans (hB.mono HB.out.size))
          clear hB
          obtain ⟨x0, x1, x2, x3⟩ := boxL_cells HX1.out
          obtain ⟨y0, y1, y2, y3⟩ := boxL_cells HX2.out
          go_wp2_with fail
          go_ret
          exact ⟨rfl, HB.out⟩
      have e1 : (l.op == 1) = false := by simpa using p1
      have p7 : ¬ l.op = 7 := by omega
      have e7 : (l.op == 7) = false := by simpa using p7
      have HE := Lib.hid (show nearB l m = true by unfold nearB; simp [hq, h0, k0, he, s1, s2, hd, p1, p7])
      rw [HE.out]
      clear hq h0 k0 he s1 s2 hd p1 p7
      go_enter Tryz.func40, Tryz.ntmps40
      rw [hW0] at x0 x1 x2 x3 y0 y1 y2 y3
      go_wp2_with fail
      rw [← hW0]
      clear hW0 x0 x1 x2 x3 y0 y1 y2 y3
      refine (HF.out _).mono ?_
      rintro e w1 ⟨rfl, hB⟩
      have HX1 := Lib.hid (hp_below HX1.out hB (hp_lt HX1.out))
      have HX2 := Lib.hid (hp_below HX2.out hB (hp_lt HX2.out))
      have HB := Lib.hid (HB.out.trans (hB.mono HB.out.size))
      clear hB
      obtain ⟨x0, x1, x2, x3⟩ := boxL_cells HX1.out
      obtain ⟨y0, y1, y2, y3⟩ := boxL_cells HX2.out
      go_wp2_with fail
      go_ret
      exact ⟨rfl, HB.out⟩
    have f2 : decide (3 ≤ l.op) = true := by simpa using s2
    by_cases s3 : l.a = m.b
    rotate_left
    · have f3 : (l.a == m.b) = false := by simpa using s3
      by_cases hd : dsN l m = 1
      rotate_left
      · have HE := Lib.hid (show nearB l m = false by unfold nearB; simp [hq, h0, k0, he, s1, s2, s3, hd])
        rw [HE.out]
        have dd : (dsN l m != 1) = true := by simpa using hd
        clear hq h0 k0 he s1 s2 s3 hd
        go_enter Tryz.func40, Tryz.ntmps40
        rw [hW0] at x0 x1 x2 x3 y0 y1 y2 y3
        go_wp2_with fail
        rw [← hW0]
        clear hW0 x0 x1 x2 x3 y0 y1 y2 y3
        refine (HF.out _).mono ?_
        rintro e w1 ⟨rfl, hB⟩
        have HX1 := Lib.hid (hp_below HX1.out hB (hp_lt HX1.out))
        have HX2 := Lib.hid (hp_below HX2.out hB (hp_lt HX2.out))
        have HB := Lib.hid (HB.out.trans (hB.mono HB.out.size))
        clear hB
        obtain ⟨x0, x1, x2, x3⟩ := boxL_cells HX1.out
        obtain ⟨y0, y1, y2, y3⟩ := boxL_cells HX2.out
        go_wp2_with fail
        go_ret
        exact ⟨rfl, HB.out⟩
      have dd : (dsN l m != 1) = false := by simpa using hd
      have p1 : ¬ l.op = 1 := by omega
      have e1 : (l.op == 1) = false := by simpa using p1
      by_cases p7 : l.op = 7
      · have e7 : (l.op == 7) = true := by simpa using p7
        have HE := Lib.hid (show nearB l m = true by unfold nearB; simp [hq, h0, k0, he, s1, s2, s3, hd, p7])
        rw [HE.out]
        clear hq h0 k0 he s1 s2 s3 hd p7 p1
        go_enter Tryz.func40, Tryz.ntmps40
        rw [hW0] at x0 x1 x2 x3 y0 y1 y2 y3
        go_wp2_with fail
        rw [← hW0]
        clear hW0 x0 x1 x2 x3 y0 y1 y2 y3
        refine (HF.out _).mono ?_
        rintro e w1 ⟨rfl, hB⟩
        have HX1 := Lib.hid (hp_below HX1.out hB (hp_lt HX1.out))
        have HX2 := Lib.hid (hp_below HX2.out hB (hp_lt HX2.out))
        have HB := Lib.hid (HB.out.trans (hB.mono HB.out.size))
        clear hB
        obtain ⟨x0, x1, x2, x3⟩ := boxL_cells HX1.out
        obtain ⟨y0, y1, y2, y3⟩ := boxL_cells HX2.out
        go_wp2_with fail
        go_ret
        exact ⟨rfl, HB.out⟩
      have e7 : (l.op == 7) = false := by simpa using p7
      have HE := Lib.hid (show nearB l m = true by unfold nearB; simp [hq, h0, k0, he, s1, s2, s3, hd, p1, p7])
      rw [HE.out]
      clear hq h0 k0 he s1 s2 s3 hd p1 p7
      go_enter Tryz.func40, Tryz.ntmps40
      rw [hW0] at x0 x1 x2 x3 y0 y1 y2 y3
      go_wp2_with fail
      rw [← hW0]
      clear hW0 x0 x1 x2 x3 y0 y1 y2 y3
      refine (HF.out _).mono ?_
      rintro e w1 ⟨rfl, hB⟩
      have HX1 := Lib.hid (hp_below HX1.out hB (hp_lt HX1.out))
      have HX2 := Lib.hid (hp_below HX2.out hB (hp_lt HX2.out))
      have HB := Lib.hid (HB.out.trans (hB.mono HB.out.size))
      clear hB
      obtain ⟨x0, x1, x2, x3⟩ := boxL_cells HX1.out
      obtain ⟨y0, y1, y2, y3⟩ := boxL_cells HX2.out
      go_wp2_with fail
      go_ret
      exact ⟨rfl, HB.out⟩
    have f3 : (l.a == m.b) = true := by simpa using s3
    by_cases s4 : l.b = m.a
    rotate_left
    · have f4 : (l.b == m.a) = false := by simpa using s4
      by_cases hd : dsN l m = 1
      rotate_left
      · have HE := Lib.hid (show nearB l m = false by unfold nearB; simp [hq, h0, k0, he, s1, s2, s3, s4, hd])
        rw [HE.out]
        have dd : (dsN l m != 1) = true := by simpa using hd
        clear hq h0 k0 he s1 s2 s3 s4 hd
        go_enter Tryz.func40, Tryz.ntmps40
        rw [hW0] at x0 x1 x2 x3 y0 y1 y2 y3
        go_wp2_with fail
        rw [← hW0]
        clear hW0 x0 x1 x2 x3 y0 y1 y2 y3
        refine (HF.out _).mono ?_
        rintro e w1 ⟨rfl, hB⟩
        have HX1 := Lib.hid (hp_below HX1.out hB (hp_lt HX1.out))
        have HX2 := Lib.hid (hp_below HX2.out hB (hp_lt HX2.out))
        have HB := Lib.hid (HB.out.trans (hB.mono HB.out.size))
        clear hB
        obtain ⟨x0, x1, x2, x3⟩ := boxL_cells HX1.out
        obtain ⟨y0, y1, y2, y3⟩ := boxL_cells HX2.out
        go_wp2_with fail
        go_ret
        exact ⟨rfl, HB.out⟩
      have dd : (dsN l m != 1) = false := by simpa using hd
      have p1 : ¬ l.op = 1 := by omega
      have e1 : (l.op == 1) = false := by simpa using p1
      by_cases p7 : l.op = 7
      · have e7 : (l.op == 7) = true := by simpa using p7
        have HE := Lib.hid (show nearB l m = true by unfold nearB; simp [hq, h0, k0, he, s1, s2, s3, s4, hd, p7])
        rw [HE.out]
        clear hq h0 k0 he s1 s2 s3 s4 hd p7 p1
        go_enter Tryz.func40, Tryz.ntmps40
        rw [hW0] at x0 x1 x2 x3 y0 y1 y2 y3
        go_wp2_with fail
        rw [← hW0]
        clear hW0 x0 x1 x2 x3 y0 y1 y2 y3
        refine (HF.out _).mono ?_
        rintro e w1 ⟨rfl, hB⟩
        have HX1 := Lib.hid (hp_below HX1.out hB (hp_lt HX1.out))
        have HX2 := Lib.hid (hp_below HX2.out hB (hp_lt HX2.out))
        have HB := Lib.hid (HB.out.trans (hB.mono HB.out.size))
        clear hB
        obtain ⟨x0, x1, x2, x3⟩ := boxL_cells HX1.out
        obtain ⟨y0, y1, y2, y3⟩ := boxL_cells HX2.out
        go_wp2_with fail
        go_ret
        exact ⟨rfl, HB.out⟩
      have e7 : (l.op == 7) = false := by simpa using p7
      have HE := Lib.hid (show nearB l m = true by unfold nearB; simp [hq, h0, k0, he, s1, s2, s3, s4, hd, p1, p7])
      rw [HE.out]
      clear hq h0 k0 he s1 s2 s3 s4 hd p1 p7
      go_enter Tryz.func40, Tryz.ntmps40
      rw [hW0] at x0 x1 x2 x3 y0 y1 y2 y3
      go_wp2_with fail
      rw [← hW0]
      clear hW0 x0 x1 x2 x3 y0 y1 y2 y3
      refine (HF.out _).mono ?_
      rintro e w1 ⟨rfl, hB⟩
      have HX1 := Lib.hid (hp_below HX1.out hB (hp_lt HX1.out))
      have HX2 := Lib.hid (hp_below HX2.out hB (hp_lt HX2.out))
      have HB := Lib.hid (HB.out.trans (hB.mono HB.out.size))
      clear hB
      obtain ⟨x0, x1, x2, x3⟩ := boxL_cells HX1.out
      obtain ⟨y0, y1, y2, y3⟩ := boxL_cells HX2.out
      go_wp2_with fail
      go_ret
      exact ⟨rfl, HB.out⟩
    have f4 : (l.b == m.a) = true := by simpa using s4
    have HE := Lib.hid (show nearB l m = true by unfold nearB; simp [hq, h0, k0, he, s1, s2, s3, s4])
    rw [HE.out]
    clear hq h0 k0 he s1 s2 s3 s4
    go_enter Tryz.func40, Tryz.ntmps40
    rw [hW0] at x0 x1 x2 x3 y0 y1 y2 y3
    go_wp2_with fail
    rw [← hW0]
    clear hW0 x0 x1 x2 x3 y0 y1 y2 y3
    refine (HF.out _).mono ?_
    rintro e w1 ⟨rfl, hB⟩
    have HX1 := Lib.hid (hp_below HX1.out hB (hp_lt HX1.out))
    have HX2 := Lib.hid (hp_below HX2.out hB (hp_lt HX2.out))
    have HB := Lib.hid (HB.out.trans (hB.mono HB.out.size))
    clear hB
    obtain ⟨x0, x1, x2, x3⟩ := boxL_cells HX1.out
    obtain ⟨y0, y1, y2, y3⟩ := boxL_cells HX2.out
    go_wp2_with fail
    go_ret
    exact ⟨rfl, HB.out⟩

end Go.Proofs.YtjciojoeifekeaaGreat
