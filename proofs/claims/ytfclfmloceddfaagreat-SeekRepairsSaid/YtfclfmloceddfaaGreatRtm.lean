/- Several texts in one. -/
import Derived.Test.YtfclfmloceddfaaGreatCnL
import Derived.Test.YtfclfmloceddfaaGreatSkA
import Derived.Test.YtfclfmloceddfaaGreatSz4
import Derived.Test.YtfclfmloceddfaaGreatCdM
import Derived.Test.YtfclfmloceddfaaGreatSkC
import Derived.Test.YtfclfmloceddfaaGreatNear
import Derived.Test.YtfclfmloceddfaaGreatRefC
import Derived.Deep.RegionHeld
import Derived.BigQuiet
/- near of the document (package tinkerref05): contract. -/
set_option linter.unusedVariables false
set_option linter.unusedSimpArgs false
namespace Go.Proofs.YtfclfmloceddfaaGreat
open Go.RowKit Tinker

set_option maxHeartbeats 1000000 in
theorem mixes_any (n : Int) (w : World) : Calls Tryz.prog 96 #[.int .i64 n] w fun e w' => e = .returned (.bool (mixB n)) ∧ w = w' := by
  unfold mixB
  by_cases h1 : 3 ≤ n
  · have d1 : decide (3 ≤ n) = true := by simpa using h1
    rw [d1]
    go_enter Tryz.func96, Tryz.ntmps96
    go_wp2_with fail
    go_ret
    exact ⟨rfl, rfl⟩
  · have d1 : decide (3 ≤ n) = false := by simpa using h1
    rw [d1]
    go_enter Tryz.func96, Tryz.ntmps96
    go_wp2_with fail
    go_ret
    exact ⟨rfl, rfl⟩

set_option maxRecDepth 100000 in
set_option maxHeartbeats 20000000 in
theorem rnear_any (l m : L) (ww : World) (hl : isLn l = true) (hm : isLn m = true) : Calls Tryz.prog 65 #[lv l, lv m] ww fun e w' => e = .returned (.bool (nearB l m)) ∧ Below ww.heap.size ww w' := by
  obtain ⟨⟨o1, o2⟩, ⟨t1, t2⟩, ⟨a1, a2⟩, ⟨b1, b2⟩⟩ := isLn_bd hl
  obtain ⟨⟨o3, o4⟩, ⟨t3, t4⟩, ⟨a3, a4⟩, ⟨b3, b4⟩⟩ := isLn_bd hm
  clear hl hm
  have hw1 : IntKind.i64.wrap (l.a - m.a) = l.a - m.a := IntWalk.i64_in _ (by omega)
  have hw2 : IntKind.i64.wrap (m.a - l.a) = m.a - l.a := IntWalk.i64_in _ (by omega)
  have hw3 : IntKind.i64.wrap (l.to - m.to) = l.to - m.to := IntWalk.i64_in _ (by omega)
  have hw4 : IntKind.i64.wrap (m.to - l.to) = m.to - l.to := IntWalk.i64_in _ (by omega)
  have HF := Lib.hid (fun w => fields_any l m w)
  have HM1 := Lib.hid (fun w => mixes_any l.op w)
  have HM2 := Lib.hid (fun w => mixes_any m.op w)
  have r1 := run_eqL l m
  obtain ⟨W0, hW0⟩ : ∃ W, W = (ww.alloc (.cells (lV l) 42)).alloc (.cells (lV m) 42) := ⟨_, rfl⟩
  have hb : Below ww.heap.size ww W0 := by rw [hW0]; exact ((Below.refl _ _).alloc (Nat.le_refl _) _).alloc (by simp) _
  have HX1 := Lib.hid (show W0.heap[ww.heap.size]? = some (.cells (lV l) 42 (0, 0)) by rw [hW0]; exact hp_alloc (hp_new rfl))
  have HX2 := Lib.hid (show W0.heap[ww.heap.size + 1]? = some (.cells (lV m) 42 (0, 0)) by rw [hW0]; exact hp_new (by simp))
  have HB := Lib.hid hb
  obtain ⟨x0, x1, x2, x3⟩ := boxL_cells HX1.out
  obtain ⟨y0, y1, y2, y3⟩ := boxL_cells HX2.out
  clear hb
  unfold lv at HF ⊢
  unfold lV at hW0
  cases hq : eqL l m
  rotate_left
  · have HE := Lib.hid (show nearB l m = false by unfold nearB; simp [hq])
    rw [HE.out]
    rw [hq] at r1
    clear hq
    go_enter Tryz.func65, Tryz.ntmps65
    rw [hW0] at x0 x1 x2 x3 y0 y1 y2 y3
    go_wp2_with fail
    rw [← hW0]
    go_ret
    exact ⟨rfl, HB.out⟩
  rw [hq] at r1
  by_cases h0 : l.op = 0
  · have HE := Lib.hid (show nearB l m = false by unfold nearB; simp [h0])
    rw [HE.out]
    have z0 : (l.op == 0) = true := by simpa using h0
    clear hq h0
    go_enter Tryz.func65, Tryz.ntmps65
    rw [hW0] at x0 x1 x2 x3 y0 y1 y2 y3
    go_wp2_with fail
    rw [← hW0]
    go_ret
    exact ⟨rfl, HB.out⟩
  have z0 : (l.op == 0) = false := by simpa using h0
  by_cases k0 : m.op = 0
  · have HE := Lib.hid (show nearB l m = true by unfold nearB; simp [hq, h0, k0])
    rw [HE.out]
    have u0 : (m.op == 0) = true := by simpa using k0
    clear hq h0 k0
    go_enter Tryz.func65, Tryz.ntmps65
    rw [hW0] at x0 x1 x2 x3 y0 y1 y2 y3
    go_wp2_with fail
    rw [← hW0]
    go_ret
    exact ⟨rfl, HB.out⟩
  have u0 : (m.op == 0) = false := by simpa using k0
  by_cases he : m.op = l.op
  rotate_left
  · have ne : (m.op != l.op) = true := by simpa using he
    cases hm1 : mixB l.op
    · have HE := Lib.hid (show nearB l m = false by unfold nearB; simp [hq, h0, k0, he, hm1])
      rw [HE.out]
      rw [hm1] at HM1
      clear hq h0 k0 he hm1
      go_enter Tryz.func65, Tryz.ntmps65
      rw [hW0] at x0 x1 x2 x3 y0 y1 y2 y3
      go_wp2_with fail
      rw [← hW0]
      clear hW0 x0 x1 x2 x3 y0 y1 y2 y3
      refine (HF.out _).mono ?_
      rintro e w1 ⟨rfl, hB⟩
      have HX1 := Lib.hid (hp_below HX1.out hB (hp_lt HX1.out))
      have HX2 := Lib.hid (hp_below HX2.out hB (hp_lt HX2.out))
      have HB := Lib.hid (HB.out.trans (hB.mono HB.out.size))
      clear hB
      obtain ⟨x0, x1, x2, x3⟩ := boxL_cells HX1.out
      obtain ⟨y0, y1, y2, y3⟩ := boxL_cells HX2.out
      go_wp2_with fail
      refine (HM1.out _).mono ?_
      rintro e w2 ⟨rfl, rfl⟩
      go_wp2_with fail
      go_ret
      exact ⟨rfl, HB.out⟩
    cases hm2 : mixB m.op
    · have HE := Lib.hid (show nearB l m = false by unfold nearB; simp [hq, h0, k0, he, hm1, hm2])
      rw [HE.out]
      rw [hm1] at HM1
      rw [hm2] at HM2
      clear hq h0 k0 he hm1 hm2
      go_enter Tryz.func65, Tryz.ntmps65
      rw [hW0] at x0 x1 x2 x3 y0 y1 y2 y3
      go_wp2_with fail
      rw [← hW0]
      clear hW0 x0 x1 x2 x3 y0 y1 y2 y3
      refine (HF.out _).mono ?_
      rintro e w1 ⟨rfl, hB⟩
      have HX1 := Lib.hid (hp_below HX1.out hB (hp_lt HX1.out))
      have HX2 := Lib.hid (hp_below HX2.out hB (hp_lt HX2.out))
      have HB := Lib.hid (HB.out.trans (hB.mono HB.out.size))
      clear hB
      obtain ⟨x0, x1, x2, x3⟩ := boxL_cells HX1.out
      obtain ⟨y0, y1, y2, y3⟩ := boxL_cells HX2.out
      go_wp2_with fail
      refine (HM1.out _).mono ?_
      rintro e w2 ⟨rfl, rfl⟩
      go_wp2_with fail
      refine (HM2.out _).mono ?_
      rintro e w2 ⟨rfl, rfl⟩
      go_wp2_with fail
      go_ret
      exact ⟨rfl, HB.out⟩
    · have HE := Lib.hid (show nearB l m = (dsN l m == 1) by unfold nearB; simp [hq, h0, k0, he, hm1, hm2])
      rw [HE.out]
      rw [hm1] at HM1
      rw [hm2] at HM2
      clear hq h0 k0 he hm1 hm2
      go_enter Tryz.func65, Tryz.ntmps65
      rw [hW0] at x0 x1 x2 x3 y0 y1 y2 y3
      go_wp2_with fail
      rw [← hW0]
      clear hW0 x0 x1 x2 x3 y0 y1 y2 y3
      refine (HF.out _).mono ?_
      rintro e w1 ⟨rfl, hB⟩
      have HX1 := Lib.hid (hp_below HX1.out hB (hp_lt HX1.out))
      have HX2 := Lib.hid (hp_below HX2.out hB (hp_lt HX2.out))
      have HB := Lib.hid (HB.out.trans (hB.mono HB.out.size))
      clear hB
      obtain ⟨x0, x1, x2, x3⟩ := boxL_cells HX1.out
      obtain ⟨y0, y1, y2, y3⟩ := boxL_cells HX2.out
      go_wp2_with fail
      refine (HM1.out _).mono ?_
      rintro e w2 ⟨rfl, rfl⟩
      go_wp2_with fail
      refine (HM2.out _).mono ?_
      rintro e w2 ⟨rfl, rfl⟩
      go_wp2_with fail
      go_ret
      exact ⟨rfl, HB.out⟩
  · have ne : (m.op != l.op) = false := by simpa using he
    by_cases s1 : l.to = m.to
    rotate_left
    · have f1 : (l.to == m.to) = false := by simpa using s1
      have g1 : (l.to != m.to) = true := by simpa using s1
      by_cases hd : dsN l m = 1
      rotate_left
      · have HE := Lib.hid (show nearB l m = false by unfold nearB; simp [hq, h0, k0, he, s1, hd])
        rw [HE.out]
        have dd : (dsN l m != 1) = true := by simpa using hd
        clear hq h0 k0 he s1 hd
        go_enter Tryz.func65, Tryz.ntmps65
        rw [hW0] at x0 x1 x2 x3 y0 y1 y2 y3
        go_wp2_with fail
        rw [← hW0]
        clear hW0 x0 x1 x2 x3 y0 y1 y2 y3
        refine (HF.out _).mono ?_
        rintro e w1 ⟨rfl, hB⟩
        have HX1 := Lib.hid (hp_below HX1.out hB (hp_lt HX1.out))
        have HX2 := Lib.hid (hp_below HX2.out hB (hp_lt HX2.out))
        have HB := Lib.hid (HB.out.trans (hB.mono HB.out.size))
        clear hB
        obtain ⟨x0, x1, x2, x3⟩ := boxL_cells HX1.out
        obtain ⟨y0, y1, y2, y3⟩ := boxL_cells HX2.out
        go_wp2_with fail
        go_ret
        exact ⟨rfl, HB.out⟩
      have dd : (dsN l m != 1) = false := by simpa using hd
      by_cases p1 : l.op = 1
      · have e1 : (l.op == 1) = true := by simpa using p1
        have e7 : (l.op == 7) = false := by rw [p1]; rfl
        by_cases pa : l.a = m.a
        · have HE := Lib.hid (show nearB l m = true by unfold nearB; simp [hq, h0, k0, he, s1, hd, p1, pa])
          rw [HE.out]
          have ea : (l.a != m.a) = false := by simpa using pa
          clear hq h0 k0 he s1 hd p1 pa
          go_enter Tryz.func65, Tryz.ntmps65
          rw [hW0] at x0 x1 x2 x3 y0 y1 y2 y3
          go_wp2_with fail
          rw [← hW0]
          clear hW0 x0 x1 x2 x3 y0 y1 y2 y3
          refine (HF.out _).mono ?_
          rintro e w1 ⟨rfl, hB⟩
          have HX1 := Lib.hid (hp_below HX1.out hB (hp_lt HX1.out))
          have HX2 := Lib.hid (hp_below HX2.out hB (hp_lt HX2.out))
          have HB := Lib.hid (HB.out.trans (hB.mono HB.out.size))
          clear hB
          obtain ⟨x0, x1, x2, x3⟩ := boxL_cells HX1.out
          obtain ⟨y0, y1, y2, y3⟩ := boxL_cells HX2.out
          go_wp2_with fail
          go_ret
          exact ⟨rfl, HB.out⟩
        have ea : (l.a != m.a) = true := by simpa using pa
        by_cases pb : l.a - m.a = 1
        · have HE := Lib.hid (show nearB l m = true by unfold nearB; simp [hq, h0, k0, he, s1, hd, p1, pa, pb])
          rw [HE.out]
          have eb : (l.a - m.a == 1) = true := by simpa using pb
          clear hq h0 k0 he s1 hd p1 pa pb
          go_enter Tryz.func65, Tryz.ntmps65
          rw [hW0] at x0 x1 x2 x3 y0 y1 y2 y3
          go_wp2_with fail
          rw [← hW0]
          clear hW0 x0 x1 x2 x3 y0 y1 y2 y3
          refine (HF.out _).mono ?_
          rintro e w1 ⟨rfl, hB⟩
          have HX1 := Lib.hid (hp_below HX1.out hB (hp_lt HX1.out))
          have HX2 := Lib.hid (hp_below HX2.out hB (hp_lt HX2.out))
          have HB := Lib.hid (HB.out.trans (hB.mono HB.out.size))
          clear hB
          obtain ⟨x0, x1, x2, x3⟩ := boxL_cells HX1.out
          obtain ⟨y0, y1, y2, y3⟩ := boxL_cells HX2.out
          go_wp2_with fail
          go_ret
          exact ⟨rfl, HB.out⟩
        · have HE := Lib.hid (show nearB l m = (m.a - l.a == 1) by unfold nearB; simp [hq, h0, k0, he, s1, hd, p1, pa, pb])
          rw [HE.out]
          have eb : (l.a - m.a == 1) = false := by simpa using pb
          clear hq h0 k0 he s1 hd p1 pa pb
          go_enter Tryz.func65, Tryz.ntmps65
          rw [hW0] at x0 x1 x2 x3 y0 y1 y2 y3
          go_wp2_with fail
          rw [← hW0]
          clear hW0 x0 x1 x2 x3 y0 y1 y2 y3
          refine (HF.out _).mono ?_
          rintro e w1 ⟨rfl, hB⟩
          have HX1 := Lib.hid (hp_below HX1.out hB (hp_lt HX1.out))
          have HX2 := Lib.hid (hp_below HX2.out hB (hp_lt HX2.out))
          have HB := Lib.hid (HB.out.trans (hB.mono HB.out.size))
          clear hB
          obtain ⟨x0, x1, x2, x3⟩ := boxL_cells HX1.out
          obtain ⟨y0, y1, y2, y3⟩ := boxL_cells HX2.out
          go_wp2_with fail
          go_ret
          exact ⟨rfl, HB.out⟩
      have e1 : (l.op == 1) = false := by simpa using p1
      by_cases p7 : l.op = 7
      · have e7 : (l.op == 7) = true := by simpa using p7
        by_cases pb : l.to - m.to = 1
        · have HE := Lib.hid (show nearB l m = true by unfold nearB; simp [hq, h0, k0, he, s1, hd, p7, pb])
          rw [HE.out]
          have eb : (l.to - m.to == 1) = true := by simpa using pb
          clear hq h0 k0 he s1 hd p7 pb p1
          go_enter Tryz.func65, Tryz.ntmps65
          rw [hW0] at x0 x1 x2 x3 y0 y1 y2 y3
          go_wp2_with fail
          rw [← hW0]
          clear hW0 x0 x1 x2 x3 y0 y1 y2 y3
          refine (HF.out _).mono ?_
          rintro e w1 ⟨rfl, hB⟩
          have HX1 := Lib.hid (hp_below HX1.out hB (hp_lt HX1.out))
          have HX2 := Lib.hid (hp_below HX2.out hB (hp_lt HX2.out))
          have HB := Lib.hid (HB.out.trans (hB.mono HB.out.size))
          clear hB
          obtain ⟨x0, x1, x2, x3⟩ := boxL_cells HX1.out
          obtain ⟨y0, y1, y2, y3⟩ := boxL_cells HX2.out
          go_wp2_with fail
          go_ret
          exact ⟨rfl, HB.out⟩
        · have HE := Lib.hid (show nearB l m = (m.to - l.to == 1) by unfold nearB; simp [hq, h0, k0, he, s1, hd, p7, pb])
          rw [HE.out]
          have eb : (l.to - m.to == 1) = false := by simpa using pb
          clear hq h0 k0 he s1 hd p7 pb p1
          go_enter Tryz.func65, Tryz.ntmps65
          rw [hW0] at x0 x1 x2 x3 y0 y1 y2 y3
          go_wp2_with fail
          rw [← hW0]
          clear hW0 x0 x1 x2 x3 y0 y1 y2 y3
          refine (HF.out _).mono ?_
          rintro e w1 ⟨rfl, hB⟩
          have HX1 := Lib.hid (hp_below HX1.out hB (hp_lt HX1.out))
          have HX2 := Lib.hid (hp_below HX2.out hB (hp_lt HX2.out))
          have HB := Lib.hid (HB.out.trans (hB.mono HB.out.size))
          clear hB
          obtain ⟨x0, x1, x2, x3⟩ := boxL_cells HX1.out
          obtain ⟨y0, y1, y2, y3⟩ := boxL_cells HX2.out
          go_wp2_with fail
          go_ret
          exact ⟨rfl, HB.out⟩
      have e7 : (l.op == 7) = false := by simpa using p7
      have HE := Lib.hid (show nearB l m = true by unfold nearB; simp [hq, h0, k0, he, s1, hd, p1, p7])
      rw [HE.out]
      clear hq h0 k0 he s1 hd p1 p7
      go_enter Tryz.func65, Tryz.ntmps65
      rw [hW0] at x0 x1 x2 x3 y0 y1 y2 y3
      go_wp2_with fail
      rw [← hW0]
      clear hW0 x0 x1 x2 x3 y0 y1 y2 y3
      refine (HF.out _).mono ?_
      rintro e w1 ⟨rfl, hB⟩
      have HX1 := Lib.hid (hp_below HX1.out hB (hp_lt HX1.out))
      have HX2 := Lib.hid (hp_below HX2.out hB (hp_lt HX2.out))
      have HB := Lib.hid (HB.out.trans (hB.mono HB.out.size))
      clear hB
      obtain ⟨x0, x1, x2, x3⟩ := boxL_cells HX1.out
      obtain ⟨y0, y1, y2, y3⟩ := boxL_cells HX2.out
      go_wp2_with fail
      go_ret
      exact ⟨rfl, HB.out⟩
    have f1 : (l.to == m.to) = true := by simpa using s1
    have g1 : (l.to != m.to) = false := by simpa using s1
    by_cases s2 : 3 ≤ l.op
    rotate_left
    · have f2 : decide (3 ≤ l.op) = false := by simpa using s2
      by_cases hd : dsN l m = 1
      rotate_left
      · have HE := Lib.hid (show nearB l m = false by unfold nearB; simp [hq, h0, k0, he, s1, s2, hd])
        rw [HE.out]
        have dd : (dsN l m != 1) = true := by simpa using hd
        clear hq h0 k0 he s1 s2 hd
        go_enter Tryz.func65, Tryz.ntmps65
        rw [hW0] at x0 x1 x2 x3 y0 y1 y2 y3
        go_wp2_with fail
        rw [← hW0]
        clear hW0 x0 x1 x2 x3 y0 y1 y2 y3
        refine (HF.out _).mono ?_
        rintro e w1 ⟨rfl, hB⟩
        have HX1 := Lib.hid (hp_below HX1.out hB (hp_lt HX1.out))
        have HX2 := Lib.hid (hp_below HX2.out hB (hp_lt HX2.out))
        have HB := Lib.hid (HB.out.trans (hB.mono HB.out.size))
        clear hB
        obtain ⟨x0, x1, x2, x3⟩ := boxL_cells HX1.out
        obtain ⟨y0, y1, y2, y3⟩ := boxL_cells HX2.out
        go_wp2_with fail
        go_ret
        exact ⟨rfl, HB.out⟩
      have dd : (dsN l m != 1) = false := by simpa using hd
      by_cases p1 : l.op = 1
      · have e1 : (l.op == 1) = true := by simpa using p1
        have e7 : (l.op == 7) = false := by rw [p1]; rfl
        by_cases pa : l.a = m.a
        · have HE := Lib.hid (show nearB l m = true by unfold nearB; simp [hq, h0, k0, he, s1, s2, hd, p1, pa])
          rw [HE.out]
          have ea : (l.a != m.a) = false := by simpa using pa
          clear hq h0 k0 he s1 s2 hd p1 pa
          go_enter Tryz.func65, Tryz.ntmps65
          rw [hW0] at x0 x1 x2 x3 y0 y1 y2 y3
          go_wp2_with fail
          rw [← hW0]
          clear hW0 x0 x1 x2 x3 y0 y1 y2 y3
          refine (HF.out _).mono ?_
          rintro e w1 ⟨rfl, hB⟩
          have HX1 := Lib.hid (hp_below HX1.out hB (hp_lt HX1.out))
          have HX2 := Lib.hid (hp_below HX2.out hB (hp_lt HX2.out))
          have HB := Lib.hid (HB.out.trans (hB.mono HB.out.size))
          clear hB
          obtain ⟨x0, x1, x2, x3⟩ := boxL_cells HX1.out
          obtain ⟨y0, y1, y2, y3⟩ := boxL_cells HX2.out
          go_wp2_with fail
          go_ret
          exact ⟨rfl, HB.out⟩
        have ea : (l.a != m.a) = true := by simpa using pa
        by_cases pb : l.a - m.a = 1
        · have HE := Lib.hid (show nearB l m = true by unfold nearB; simp [hq, h0, k0, he, s1, s2, hd, p1, pa, pb])
          rw [HE.out]
          have eb : (l.a - m.a == 1) = true := by simpa using pb
          clear hq h0 k0 he s1 s2 hd p1 pa pb
          go_enter Tryz.func65, Tryz.ntmps65
          rw [hW0] at x0 x1 x2 x3 y0 y1 y2 y3
          go_wp2_with fail
          rw [← hW0]
          clear hW0 x0 x1 x2 x3 y0 y1 y2 y3
          refine (HF.out _).mono ?_
          rintro e w1 ⟨rfl, hB⟩
          have HX1 := Lib.hid (hp_below HX1.out hB (hp_lt HX1.out))
          have HX2 := Lib.hid (hp_below HX2.out hB (hp_lt HX2.out))
          have HB := Lib.hid (HB.out.trans (hB.mono HB.out.size))
          clear hB
          obtain ⟨x0, x1, x2, x3⟩ := boxL_cells HX1.out
          obtain ⟨y0, y1, y2, y3⟩ := boxL_cells HX2.out
          go_wp2_with fail
          go_ret
          exact ⟨rfl, HB.out⟩
        · have HE := Lib.hid (show nearB l m = (m.a - l.a == 1) by unfold nearB; simp [hq, h0, k0, he, s1, s2, hd, p1, pa, pb])
          rw [HE.out]
          have eb : (l.a - m.a == 1) = false := by simpa using pb
          clear hq h0 k0 he s1 s2 hd p1 pa pb
          go_enter Tryz.func65, Tryz.ntmps65
          rw [hW0] at x0 x1 x2 x3 y0 y1 y2 y3
          go_wp2_with fail
          rw [← hW0]
          clear hW0 x0 x1 x2 x3 y0 y1 y2 y3
          refine (HF.out _).mono ?_
          rintro e w1 ⟨rfl, hB⟩
          have HX1 := Lib.hid (hp_below HX1.out hB (hp_lt HX1.out))
          have HX2 := Lib.hid (hp_below HX2.out hB (hp_lt HX2.out))
          have HB := Lib.hid (HB.out.trans (hB.mono HB.out.size))
          clear hB
          obtain ⟨x0, x1, x2, x3⟩ := boxL_cells HX1.out
          obtain ⟨y0, y1, y2, y3⟩ := boxL_cells HX2.out
          go_wp2_with fail
          go_ret
          exact ⟨rfl, HB.out⟩
      have e1 : (l.op == 1) = false := by simpa using p1
      have p7 : ¬ l.op = 7 := by omega
      have e7 : (l.op == 7) = false := by simpa using p7
      have HE := Lib.hid (show nearB l m = true by unfold nearB; simp [hq, h0, k0, he, s1, s2, hd, p1, p7])
      rw [HE.out]
      clear hq h0 k0 he s1 s2 hd p1 p7
      go_enter Tryz.func65, Tryz.ntmps65
      rw [hW0] at x0 x1 x2 x3 y0 y1 y2 y3
      go_wp2_with fail
      rw [← hW0]
      clear hW0 x0 x1 x2 x3 y0 y1 y2 y3
      refine (HF.out _).mono ?_
      rintro e w1 ⟨rfl, hB⟩
      have HX1 := Lib.hid (hp_below HX1.out hB (hp_lt HX1.out))
      have HX2 := Lib.hid (hp_below HX2.out hB (hp_lt HX2.out))
      have HB := Lib.hid (HB.out.trans (hB.mono HB.out.size))
      clear hB
      obtain ⟨x0, x1, x2, x3⟩ := boxL_cells HX1.out
      obtain ⟨y0, y1, y2, y3⟩ := boxL_cells HX2.out
      go_wp2_with fail
      go_ret
      exact ⟨rfl, HB.out⟩
    have f2 : decide (3 ≤ l.op) = true := by simpa using s2
    by_cases s3 : l.a = m.b
    rotate_left
    · have f3 : (l.a == m.b) = false := by simpa using s3
      by_cases hd : dsN l m = 1
      rotate_left
      · have HE := Lib.hid (show nearB l m = false by unfold nearB; simp [hq, h0, k0, he, s1, s2, s3, hd])
        rw [HE.out]
        have dd : (dsN l m != 1) = true := by simpa using hd
        clear hq h0 k0 he s1 s2 s3 hd
        go_enter Tryz.func65, Tryz.ntmps65
        rw [hW0] at x0 x1 x2 x3 y0 y1 y2 y3
        go_wp2_with fail
        rw [← hW0]
        clear hW0 x0 x1 x2 x3 y0 y1 y2 y3
        refine (HF.out _).mono ?_
        rintro e w1 ⟨rfl, hB⟩
        have HX1 := Lib.hid (hp_below HX1.out hB (hp_lt HX1.out))
        have HX2 := Lib.hid (hp_below HX2.out hB (hp_lt HX2.out))
        have HB := Lib.hid (HB.out.trans (hB.mono HB.out.size))
        clear hB
        obtain ⟨x0, x1, x2, x3⟩ := boxL_cells HX1.out
        obtain ⟨y0, y1, y2, y3⟩ := boxL_cells HX2.out
        go_wp2_with fail
        go_ret
        exact ⟨rfl, HB.out⟩
      have dd : (dsN l m != 1) = false := by simpa using hd
      have p1 : ¬ l.op = 1 := by omega
      have e1 : (l.op == 1) = false := by simpa using p1
      by_cases p7 : l.op = 7
      · have e7 : (l.op == 7) = true := by simpa using p7
        have HE := Lib.hid (show nearB l m = true by unfold nearB; simp [hq, h0, k0, he, s1, s2, s3, hd, p7])
        rw [HE.out]
        clear hq h0 k0 he s1 s2 s3 hd p7 p1
        go_enter Tryz.func65, Tryz.ntmps65
        rw [hW0] at x0 x1 x2 x3 y0 y1 y2 y3
        go_wp2_with fail
        rw [← hW0]
        clear hW0 x0 x1 x2 x3 y0 y1 y2 y3
        refine (HF.out _).mono ?_
        rintro e w1 ⟨rfl, hB⟩
        have HX1 := Lib.hid (hp_below HX1.out hB (hp_lt HX1.out))
        have HX2 := Lib.hid (hp_below HX2.out hB (hp_lt HX2.out))
        have HB := Lib.hid (HB.out.trans (hB.mono HB.out.size))
        clear hB
        obtain ⟨x0, x1, x2, x3⟩ := boxL_cells HX1.out
        obtain ⟨y0, y1, y2, y3⟩ := boxL_cells HX2.out
        go_wp2_with fail
        go_ret
        exact ⟨rfl, HB.out⟩
      have e7 : (l.op == 7) = false := by simpa using p7
      have HE := Lib.hid (show nearB l m = true by unfold nearB; simp [hq, h0, k0, he, s1, s2, s3, hd, p1, p7])
      rw [HE.out]
      clear hq h0 k0 he s1 s2 s3 hd p1 p7
      go_enter Tryz.func65, Tryz.ntmps65
      rw [hW0] at x0 x1 x2 x3 y0 y1 y2 y3
      go_wp2_with fail
      rw [← hW0]
      clear hW0 x0 x1 x2 x3 y0 y1 y2 y3
      refine (HF.out _).mono ?_
      rintro e w1 ⟨rfl, hB⟩
      have HX1 := Lib.hid (hp_below HX1.out hB (hp_lt HX1.out))
      have HX2 := Lib.hid (hp_below HX2.out hB (hp_lt HX2.out))
      have HB := Lib.hid (HB.out.trans (hB.mono HB.out.size))
      clear hB
      obtain ⟨x0, x1, x2, x3⟩ := boxL_cells HX1.out
      obtain ⟨y0, y1, y2, y3⟩ := boxL_cells HX2.out
      go_wp2_with fail
      go_ret
      exact ⟨rfl, HB.out⟩
    have f3 : (l.a == m.b) = true := by simpa using s3
    by_cases s4 : l.b = m.a
    rotate_left
    · have f4 : (l.b == m.a) = false := by simpa using s4
      by_cases hd : dsN l m = 1
      rotate_left
      · have HE := Lib.hid (show nearB l m = false by unfold nearB; simp [hq, h0, k0, he, s1, s2, s3, s4, hd])
        rw [HE.out]
        have dd : (dsN l m != 1) = true := by simpa using hd
        clear hq h0 k0 he s1 s2 s3 s4 hd
        go_enter Tryz.func65, Tryz.ntmps65
        rw [hW0] at x0 x1 x2 x3 y0 y1 y2 y3
        go_wp2_with fail
        rw [← hW0]
        clear hW0 x0 x1 x2 x3 y0 y1 y2 y3
        refine (HF.out _).mono ?_
        rintro e w1 ⟨rfl, hB⟩
        have HX1 := Lib.hid (hp_below HX1.out hB (hp_lt HX1.out))
        have HX2 := Lib.hid (hp_below HX2.out hB (hp_lt HX2.out))
        have HB := Lib.hid (HB.out.trans (hB.mono HB.out.size))
        clear hB
        obtain ⟨x0, x1, x2, x3⟩ := boxL_cells HX1.out
        obtain ⟨y0, y1, y2, y3⟩ := boxL_cells HX2.out
        go_wp2_with fail
        go_ret
        exact ⟨rfl, HB.out⟩
      have dd : (dsN l m != 1) = false := by simpa using hd
      have p1 : ¬ l.op = 1 := by omega
      have e1 : (l.op == 1) = false := by simpa using p1
      by_cases p7 : l.op = 7
      · have e7 : (l.op == 7) = true := by simpa using p7
        have HE := Lib.hid (show nearB l m = true by unfold nearB; simp [hq, h0, k0, he, s1, s2, s3, s4, hd, p7])
        rw [HE.out]
        clear hq h0 k0 he s1 s2 s3 s4 hd p7 p1
        go_enter Tryz.func65, Tryz.ntmps65
        rw [hW0] at x0 x1 x2 x3 y0 y1 y2 y3
        go_wp2_with fail
        rw [← hW0]
        clear hW0 x0 x1 x2 x3 y0 y1 y2 y3
        refine (HF.out _).mono ?_
        rintro e w1 ⟨rfl, hB⟩
        have HX1 := Lib.hid (hp_below HX1.out hB (hp_lt HX1.out))
        have HX2 := Lib.hid (hp_below HX2.out hB (hp_lt HX2.out))
        have HB := Lib.hid (HB.out.trans (hB.mono HB.out.size))
        clear hB
        obtain ⟨x0, x1, x2, x3⟩ := boxL_cells HX1.out
        obtain ⟨y0, y1, y2, y3⟩ := boxL_cells HX2.out
        go_wp2_with fail
        go_ret
        exact ⟨rfl, HB.out⟩
      have e7 : (l.op == 7) = false := by simpa using p7
      have HE := Lib.hid (show nearB l m = true by unfold nearB; simp [hq, h0, k0, he, s1, s2, s3, s4, hd, p1, p7])
      rw [HE.out]
      clear hq h0 k0 he s1 s2 s3 s4 hd p1 p7
      go_enter Tryz.func65, Tryz.ntmps65
      rw [hW0] at x0 x1 x2 x3 y0 y1 y2 y3
      go_wp2_with fail
      rw [← hW0]
      clear hW0 x0 x1 x2 x3 y0 y1 y2 y3
      refine (HF.out _).mono ?_
      rintro e w1 ⟨rfl, hB⟩
      have HX1 := Lib.hid (hp_below HX1.out hB (hp_lt HX1.out))
      have HX2 := Lib.hid (hp_below HX2.out hB (hp_lt HX2.out))
      have HB := Lib.hid (HB.out.trans (hB.mono HB.out.size))
      clear hB
      obtain ⟨x0, x1, x2, x3⟩ := boxL_cells HX1.out
      obtain ⟨y0, y1, y2, y3⟩ := boxL_cells HX2.out
      go_wp2_with fail
      go_ret
      exact ⟨rfl, HB.out⟩
    have f4 : (l.b == m.a) = true := by simpa using s4
    have HE := Lib.hid (show nearB l m = true by unfold nearB; simp [hq, h0, k0, he, s1, s2, s3, s4])
    rw [HE.out]
    clear hq h0 k0 he s1 s2 s3 s4
    go_enter Tryz.func65, Tryz.ntmps65
    rw [hW0] at x0 x1 x2 x3 y0 y1 y2 y3
    go_wp2_with fail
    rw [← hW0]
    clear hW0 x0 x1 x2 x3 y0 y1 y2 y3
    refine (HF.out _).mono ?_
    rintro e w1 ⟨rfl, hB⟩
    have HX1 := Lib.hid (hp_below HX1.out hB (hp_lt HX1.out))
    have HX2 := Lib.hid (hp_below HX2.out hB (hp_lt HX2.out))
    have HB := Lib.hid (HB.out.trans (hB.mono HB.out.size))
    clear hB
    obtain ⟨x0, x1, x2, x3⟩ := boxL_cells HX1.out
    obtain ⟨y0, y1, y2, y3⟩ := boxL_cells HX2.out
    go_wp2_with fail
    go_ret
    exact ⟨rfl, HB.out⟩

end Go.Proofs.YtfclfmloceddfaaGreat

/- templates, Templates, Near of the document (package tinkerref05): contracts. -/
set_option linter.unusedVariables false
set_option linter.unusedSimpArgs false
namespace Go.Proofs.YtfclfmloceddfaaGreat
open Go.RowKit Go.Shelf Tinker

set_option maxRecDepth 100000 in
set_option maxHeartbeats 4000000 in
theorem rtemplates_any (l : L) (ww : World) (hl : isLn l = true) : Calls Tryz.prog 39 #[lv l] ww (GivesLines (tmpl l) ww) := by
  obtain ⟨i0, hI, hz0, hz1, hz2⟩ := info_parts info_line
  have HA := Lib.hid (fun w => rAll_any w)
  have HN := Lib.hid (fun m w hm => rnear_any l m w hl hm)
  have HAL := Lib.hid (fun m (h : m ∈ allL) => allL_mem.1 h)
  have HFF := Lib.hid (show ∀ m, nearB l m = nearB l m from fun _ => rfl)
  have hln := allL_len9
  obtain ⟨W0, hW0⟩ : ∃ W, W = ww.alloc (.cells (lV l) 42) := ⟨_, rfl⟩
  have hb : Below ww.heap.size ww W0 := by rw [hW0]; exact (Below.refl _ _).alloc (Nat.le_refl _) _
  have h1 : W0.heap[ww.heap.size]? = some (.cells (lV l) 42 (0, 0)) := by rw [hW0]; exact hp_new rfl
  have HBw := Lib.hid hb
  have HX1 := Lib.hid h1
  clear hb h1 hl
  unfold tmpl
  generalize nearB l = f at *
  generalize allL = T at *
  unfold lv at HN ⊢
  unfold lV at hW0
  go_enter Tryz.func39, Tryz.ntmps39
  go_wp2_with fail
  rw [← hW0]
  clear hW0
  refine (HA.out _).mono ?_
  rintro e w1 ⟨a1, k1, rfl, hq, hB⟩
  have HT := Lib.hid (lines_of_own hq).1
  have HX1 := Lib.hid (hp_below HX1.out hB (hp_lt HX1.out))
  have HB0 := Lib.hid (HBw.out.trans (hB.mono HBw.out.size))
  clear hq hB
  go_wp2_with fail
  go_loopw [4, 5] (fun s4 s5 wr => ∃ k : Nat, k ≤ T.length ∧ s5 = .int .i64 (k : Int) ∧ wr.ownsRow w1.heap.size 42 4 s4 ((T.take k).filter f).length (lc ((T.take k).filter f)) ∧ Below w1.heap.size w1 wr) (fun _ s5 _ => T.length - (intOf s5).toNat)
  case atStart => exact ⟨0, Nat.zero_le _, rfl, World.ownsRow_nil _ _ _ _, Below.refl _ _⟩
  case round =>
    obtain ⟨k, hk, rfl, hO, hB⟩ := hrel
    have HO := Lib.hid hO
    have HB := Lib.hid hB
    clear hO hB
    by_cases hlt : k < T.length
    · have hlt1 : decide ((k : Int) < (T.length : Int)) = true := decide_eq_true (by omega)
      obtain ⟨tb, toff, x, rfl, htl, hx, d0, d1, d2, d3⟩ := (HT.out.below HB.out (Nat.le_refl _)).at_ hlt
      have HXr := Lib.hid (hp_below HX1.out HB.out (hp_lt HX1.out))
      have hlx := hp_lt HXr.out
      obtain ⟨c0, c1, c2, c3⟩ := boxL_cells HXr.out
      have hfl := filter_len9 (T := T) (f := f) (k := k) hln
      have HY := Lib.hid (fun h => filter_hit (T := T) (f := f) (k := k) (x := x) hx h)
      have HN0 := Lib.hid (fun h => filter_miss (T := T) (f := f) (k := k) (x := x) hx h)
      have HNx := Lib.hid (fun w => HN.out x w (HAL.out x (mem_of_get hx)))
      clear hx HN HAL HFF
      obtain ⟨I, hI⟩ : ∃ I, f x = I := ⟨_, rfl⟩
      rw [hI] at HNx
      have HIx := Lib.hid hI
      clear hI
      generalize (T.take k).filter f = LS at *
      go_upto_region 7 with fail
      go_cut [18] (fun s18 wx => s18 = .bool I ∧ Below wr.heap.size wr wx)
      case first =>
        go_region_held3 (fun w' => w'.cell? ⟨ww.heap.size, 0, none⟩ = some (.int .i64 l.op) ∧ w'.cell? ⟨ww.heap.size, 1, none⟩ = some (.int .i64 l.to) ∧ w'.cell? ⟨ww.heap.size, 2, none⟩ = some (.int .i64 l.a) ∧ w'.cell? ⟨ww.heap.size, 3, none⟩ = some (.int .i64 l.b) ∧ w'.cell? ⟨tb, toff + k * 4, none⟩ = some (.int .i64 x.op) ∧ w'.cell? ⟨tb, toff + k * 4 + 1, none⟩ = some (.int .i64 x.to) ∧ w'.cell? ⟨tb, toff + k * 4 + 2, none⟩ = some (.int .i64 x.a) ∧ w'.cell? ⟨tb, toff + k * 4 + 3, none⟩ = some (.int .i64 x.b)) (first | exact ⟨c0, c1, c2, c3, d0, d1, d2, d3⟩ | exact ⟨(hBa.cell (p := ⟨ww.heap.size, _, none⟩) hlx).trans c0, (hBa.cell (p := ⟨ww.heap.size, _, none⟩) hlx).trans c1, (hBa.cell (p := ⟨ww.heap.size, _, none⟩) hlx).trans c2, (hBa.cell (p := ⟨ww.heap.size, _, none⟩) hlx).trans c3, (hBa.cell (p := ⟨tb, _, none⟩) htl).trans d0, (hBa.cell (p := ⟨tb, _, none⟩) htl).trans d1, (hBa.cell (p := ⟨tb, _, none⟩) htl).trans d2, (hBa.cell (p := ⟨tb, _, none⟩) htl).trans d3⟩ | go_keep) ((go_at_call 65; refine (HNx.out _).mono ?_; rintro e wa ⟨rfl, hBa⟩))
        all_goals go_wp2_with fail
        all_goals go_meet
        all_goals exact ⟨rfl, (Below.refl _ _).drew.trans (hBa.mono (Nat.le_refl _))⟩
      case rest =>
      obtain ⟨rfl, hbd⟩ := hcut
      have HO2 := Lib.hid (own_below HO.out hbd (Nat.le_refl _))
      have HB2 := Lib.hid (HB.out.trans (hbd.mono HB.out.size))
      have htl2 : tb < wc.heap.size := Nat.lt_of_lt_of_le htl hbd.size
      replace d0 := (hbd.cell (p := ⟨tb, _, none⟩) htl).trans d0
      replace d1 := (hbd.cell (p := ⟨tb, _, none⟩) htl).trans d1
      replace d2 := (hbd.cell (p := ⟨tb, _, none⟩) htl).trans d2
      replace d3 := (hbd.cell (p := ⟨tb, _, none⟩) htl).trans d3
      clear hbd HO HB c0 c1 c2 c3
      cases I
      · have HS := Lib.hid (HN0.out HIx.out)
        go_wp2_with fail
        go_roundw
        case rel => exact ⟨k + 1, by omega, by go_num, by rw [HS.out]; exact HO2.out, HB2.out⟩
        case measure => simp [intOf]; omega
      · have HS := Lib.hid (HY.out HIx.out)
        obtain ⟨va, vc, rfl⟩ := own_slice HO2.out
        have hal2 : Below wc.heap.size wc (wc.alloc (.cells (lV x) 42)) := (Below.refl _ _).alloc (Nat.le_refl _) _
        have HO3 := Lib.hid (own_below HO2.out hal2 (Nat.le_refl _))
        have HB3 := Lib.hid (HB2.out.trans (hal2.mono HB2.out.size))
        have HC := Lib.hid (cells_newL wc x)
        unfold lV at HO3 HB3 HC
        clear hal2 HO2 HB2
        go_wp2_with (at_builtin; (refine wpList_append_own _ rfl (.tmp 19) (.tmp 24) 22 rfl w1.heap.size 42 i0 (.agg #[.int .i64 0, .int .i64 0, .int .i64 0, .int .i64 0]) 4 32 Tryz.underlying22 hI hz0 hz1 hz2 rfl (by decide) (.slice va LS.length vc) LS.length (lc LS) rfl HO3.out ⟨wc.heap.size, 0, none⟩ 1 1 (lc [x]) rfl ?c1 ?c2 ?c3 ?c4 ?c5 ?c6 ?_))
        case c1 => rfl
        case c2 => first | exact HC.out | exact fun j u h => h
        case c3 => exact lc_one _
        case c4 => simp [maxLen]; omega
        case c5 => omega
        case c6 => first | exact HB3.out.size | (have h9 := HB3.out.size; simp at h9; omega)
        intro v' w5 hown hgrow _
        have HB5 := Lib.hid (HB3.out.grown hgrow HB3.out.size (by rintro k hk; exact (HO3.out.lt k hk).1))
        have HO5 := Lib.hid (lines_snoc hown)
        clear hown hgrow
        go_wp2_with fail
        go_roundw
        case rel => exact ⟨k + 1, by omega, by go_num, by rw [HS.out, List.length_append]; exact HO5.out, HB5.out⟩
        case measure => simp [intOf]; omega
    · have HE := Lib.hid (filter_done (f := f) hlt)
      have hlt1 : decide ((k : Int) < (T.length : Int)) = false := decide_eq_false (by omega)
      rw [HE.out] at HO
      obtain ⟨va, vc, rfl⟩ := own_slice HO.out
      have HO := Lib.hid (own_mono HO.out HB0.out.size)
      have HB := Lib.hid (HB0.out.trans (HB.out.mono HB0.out.size))
      go_wp2_with fail
      go_ret
      exact givesLines_of rfl HO.out HB.out

end Go.Proofs.YtfclfmloceddfaaGreat

/- candidates of the document (package tinkerref05): contract, kind by kind. -/
set_option linter.unusedVariables false
set_option linter.unusedSimpArgs false
namespace Go.Proofs.YtfclfmloceddfaaGreat
open Go.RowKit Tinker

theorem any_eqL {ps : List L} {x : L} {m : Nat} (h : ¬ m < ps.length) : (ps.take m).any (fun y => eqL y x) = hasL ps x := by
  rw [List.take_of_length_le (by omega)]
  rfl

set_option maxRecDepth 100000 in
set_option maxHeartbeats 4000000 in
theorem rcand0_any (a : Option Addr) (ca : Nat) (ps : List L) (i : Nat) (w : World) (hp : LinesAt w a ps) (hv : vp ps = 0) (hi : i < ps.length) :
    Calls Tryz.prog 49 #[.slice a ps.length ca, .int .i64 (i : Int), .int .i64 0] w (GivesLines (cndL ps i 0) w) := by
  obtain ⟨i0, hI, hz0, hz1, hz2⟩ := info_parts info_line
  obtain ⟨h8, hvl⟩ := vp_ok hv
  obtain ⟨b, off, l, rfl, hlb, hl, c0, c1, c2, c3⟩ := hp.at_ hi
  have hvl := hvl l (mem_of_get hl)
  have HA := Lib.hid (fun w => rAll_any w)
  have HN := Lib.hid (fun m w hm => rnear_any l m w hvl hm)
  have HAL := Lib.hid (fun m (h : m ∈ allL) => allL_mem.1 h)
  have HFF := Lib.hid (show ∀ m, (fun m => isKd ps i 0 m && !eqL m (lnD ps i)) m = ((nearB l m) && !eqL m l) from fun m => by rw [← lnD_at hl]; rfl)
  have HP := Lib.hid hp
  have HL := Lib.hid (show ∀ W, Below w.heap.size w W → W.cell? ⟨b, off + i * 4, none⟩ = some (.int .i64 l.op) ∧ W.cell? ⟨b, off + i * 4 + 1, none⟩ = some (.int .i64 l.to) ∧ W.cell? ⟨b, off + i * 4 + 2, none⟩ = some (.int .i64 l.a) ∧ W.cell? ⟨b, off + i * 4 + 3, none⟩ = some (.int .i64 l.b) from fun W hB =>
    ⟨(hB.cell (p := ⟨b, _, none⟩) hlb).trans c0, (hB.cell (p := ⟨b, _, none⟩) hlb).trans c1, (hB.cell (p := ⟨b, _, none⟩) hlb).trans c2, (hB.cell (p := ⟨b, _, none⟩) hlb).trans c3⟩)
  have i1 : (0 : Int) ≤ (i : Int) := by omega
  have i2 : (i : Int) < (ps.length : Int) := by omega
  have hln := allL_len9
  rw [cnd_filter]
  generalize (fun m => isKd ps i 0 m && !eqL m (lnD ps i)) = f at *
  generalize allL = T at *
  clear hp hv hl hvl c0 c1 c2 c3
  unfold lv at HN
  go_enter Tryz.func49, Tryz.ntmps49
  go_wp2_with fail
  refine (HA.out _).mono ?_
  rintro e w1 ⟨a1, k1, rfl, hq, hB⟩
  have HT := Lib.hid (lines_of_own hq).1
  have HB0 := Lib.hid hB
  have HP := Lib.hid (HP.out.below hB (Nat.le_refl _))
  have HL := Lib.hid (show ∀ W, Below w1.heap.size w1 W → _ from fun W h => HL.out W (HB0.out.trans (h.mono HB0.out.size)))
  have HLT := Lib.hid (show b < w1.heap.size from Nat.lt_of_lt_of_le hlb HB0.out.size)
  clear hq hB hlb
  go_wp2_with fail
  go_loopw [8, 9] (fun s8 s9 wr => ∃ k : Nat, k ≤ T.length ∧ s9 = .int .i64 (k : Int) ∧ wr.ownsRow w1.heap.size 42 4 s8 ((T.take k).filter f).length (lc ((T.take k).filter f)) ∧ Below w1.heap.size w1 wr) (fun _ s9 _ => T.length - (intOf s9).toNat)
  case atStart => exact ⟨0, Nat.zero_le _, rfl, World.ownsRow_nil _ _ _ _, Below.refl _ _⟩
  case round =>
    obtain ⟨k, hk, rfl, hO, hB⟩ := hrel
    have HO := Lib.hid hO
    have HB := Lib.hid hB
    clear hO hB
    by_cases hlt : k < T.length
    · have hlt1 : decide ((k : Int) < (T.length : Int)) = true := decide_eq_true (by omega)
      obtain ⟨tb, toff, x, rfl, htl, hx, d0, d1, d2, d3⟩ := (HT.out.below HB.out (Nat.le_refl _)).at_ hlt
      have HDT := Lib.hid (show ∀ W, Below wr.heap.size wr W → W.cell? ⟨tb, toff + k * 4, none⟩ = some (.int .i64 x.op) ∧ W.cell? ⟨tb, toff + k * 4 + 1, none⟩ = some (.int .i64 x.to) ∧ W.cell? ⟨tb, toff + k * 4 + 2, none⟩ = some (.int .i64 x.a) ∧ W.cell? ⟨tb, toff + k * 4 + 3, none⟩ = some (.int .i64 x.b) from fun W hB =>
        ⟨(hB.cell (p := ⟨tb, _, none⟩) htl).trans d0, (hB.cell (p := ⟨tb, _, none⟩) htl).trans d1, (hB.cell (p := ⟨tb, _, none⟩) htl).trans d2, (hB.cell (p := ⟨tb, _, none⟩) htl).trans d3⟩)
      obtain ⟨c0, c1, c2, c3⟩ := HL.out wr HB.out
      have HX := Lib.hid hx
      have HFx := Lib.hid (HFF.out x)
      have hfl := filter_len9 (T := T) (f := f) (k := k) hln
      have HY := Lib.hid (fun h => filter_hit (T := T) (f := f) (k := k) (x := x) hx h)
      have HN0 := Lib.hid (fun h => filter_miss (T := T) (f := f) (k := k) (x := x) hx h)
      have e1 := run_eqL x l
      have n1 := run_neL x l
      have hbw := HLT.out
      have HNx := Lib.hid (fun w => HN.out x w (HAL.out x (mem_of_get hx)))
      clear hx HN HAL HFF
      generalize nearB l x = I at *
      generalize (T.take k).filter f = LS at *
      have hbr : b < wr.heap.size := Nat.lt_of_lt_of_le hbw HB.out.size
      go_upto_region 7 with fail
      go_cut [10] (fun s10 wx => s10 = .bool I ∧ Below wr.heap.size wr wx)
      case first =>
        go_region_held3 (fun w' => w'.cell? ⟨b, off + i * 4, none⟩ = some (.int .i64 l.op) ∧ w'.cell? ⟨b, off + i * 4 + 1, none⟩ = some (.int .i64 l.to) ∧ w'.cell? ⟨b, off + i * 4 + 2, none⟩ = some (.int .i64 l.a) ∧ w'.cell? ⟨b, off + i * 4 + 3, none⟩ = some (.int .i64 l.b) ∧ w'.cell? ⟨tb, toff + k * 4, none⟩ = some (.int .i64 x.op) ∧ w'.cell? ⟨tb, toff + k * 4 + 1, none⟩ = some (.int .i64 x.to) ∧ w'.cell? ⟨tb, toff + k * 4 + 2, none⟩ = some (.int .i64 x.a) ∧ w'.cell? ⟨tb, toff + k * 4 + 3, none⟩ = some (.int .i64 x.b)) (first | exact ⟨c0, c1, c2, c3, d0, d1, d2, d3⟩ | exact ⟨(hBa.cell (p := ⟨b, _, none⟩) hbr).trans c0, (hBa.cell (p := ⟨b, _, none⟩) hbr).trans c1, (hBa.cell (p := ⟨b, _, none⟩) hbr).trans c2, (hBa.cell (p := ⟨b, _, none⟩) hbr).trans c3, (hBa.cell (p := ⟨tb, _, none⟩) htl).trans d0, (hBa.cell (p := ⟨tb, _, none⟩) htl).trans d1, (hBa.cell (p := ⟨tb, _, none⟩) htl).trans d2, (hBa.cell (p := ⟨tb, _, none⟩) htl).trans d3⟩ | go_keep) ((go_at_call 65; refine (HNx.out _).mono ?_; rintro e wa ⟨rfl, hBa⟩))
        all_goals go_wp2_with fail
        all_goals go_meet
        all_goals exact ⟨rfl, (Below.refl _ _).drew.trans (hBa.mono (Nat.le_refl _))⟩
      case rest =>
      obtain ⟨rfl, hbd⟩ := hcut
      have HO2 := Lib.hid (own_below HO.out hbd (Nat.le_refl _))
      have HB2 := Lib.hid (HB.out.trans (hbd.mono HB.out.size))
      obtain ⟨c0, c1, c2, c3⟩ := HL.out _ HB2.out
      obtain ⟨d0, d1, d2, d3⟩ := HDT.out _ hbd
      have htl2 : tb < wc.heap.size := Nat.lt_of_lt_of_le htl hbd.size
      clear hbd HO HB
      rename_i W0
      generalize wc = W2 at *
      go_wp2_with fail
      go_loopw [10, 11] (fun s10 s11 wx => s10 = .bool I ∧ s11 = .int .i64 0 ∧ wx = W2) (fun _ _ _ => 0)
      case atStart => exact ⟨rfl, rfl, rfl⟩
      case round =>
        obtain ⟨rfl, rfl, rfl⟩ := hrel
        go_wp2_with fail
        have HV := Lib.hid HB2.out.size
        cases I
        · have HS := Lib.hid (HN0.out (by rw [HFx.out]; rfl))
          go_quiet (fail)
          go_wp2_with fail
          go_roundw
          case rel => exact ⟨k + 1, by omega, by go_num, by rw [HS.out]; exact HO2.out, below_drewN7 HB2.out nq⟩
          case measure => simp [intOf]; omega
        · cases hq : eqL x l
          · have HS := Lib.hid (HY.out (by rw [HFx.out, hq]; rfl))
            rw [hq] at n1 e1
            clear hq
            go_quiet (fail)
            have HO3 := Lib.hid (show (wr.drewN nq).ownsRow w1.heap.size 42 4 _ LS.length (lc LS) from HO2.out)
            have HB3 := Lib.hid (below_drewN7 HB2.out nq)
            have d0 : (wr.drewN nq).cell? _ = _ := d0
            have d1 : (wr.drewN nq).cell? _ = _ := d1
            have d2 : (wr.drewN nq).cell? _ = _ := d2
            have d3 : (wr.drewN nq).cell? _ = _ := d3
            clear c0 c1 c2 c3 HO2 HB2 HV
            generalize wr.drewN nq = W3 at *
            obtain ⟨va, vc, rfl⟩ := own_slice HO3.out
            have hal2 : Below W3.heap.size W3 (W3.alloc (.cells (lV x) 42)) := (Below.refl _ _).alloc (Nat.le_refl _) _
            have HO2 := Lib.hid (own_below HO3.out hal2 (Nat.le_refl _))
            have HB2 := Lib.hid (HB3.out.trans (hal2.mono HB3.out.size))
            have HC := Lib.hid (cells_newL W3 x)
            unfold lV at HO2 HB2 HC
            clear hal2 HO3 HB3
            go_wp2_with (at_builtin; (refine wpList_append_own _ rfl (.tmp 70) (.tmp 75) 22 rfl w1.heap.size 42 i0 (.agg #[.int .i64 0, .int .i64 0, .int .i64 0, .int .i64 0]) 4 32 Tryz.underlying22 hI hz0 hz1 hz2 rfl (by decide) (.slice va LS.length vc) LS.length (lc LS) rfl HO2.out ⟨W3.heap.size, 0, none⟩ 1 1 (lc [x]) rfl ?c1 ?c2 ?c3 ?c4 ?c5 ?c6 ?_))
            case c1 => rfl
            case c2 => first | exact HC.out | exact fun j u h => h
            case c3 => exact lc_one _
            case c4 => simp [maxLen]; omega
            case c5 => omega
            case c6 => first | exact HB2.out.size | (have h9 := HB2.out.size; simp at h9; omega)
            intro v' w5 hown hgrow _
            have HB5 := Lib.hid (HB2.out.grown hgrow HB2.out.size (by rintro k hk; exact (HO2.out.lt k hk).1))
            have HO5 := Lib.hid (lines_snoc hown)
            clear hown hgrow
            go_wp2_with fail
            go_roundw
            case rel => exact ⟨k + 1, by omega, by go_num, by rw [HS.out, List.length_append]; exact HO5.out, HB5.out⟩
            case measure => simp [intOf]; omega
          · have HS := Lib.hid (HN0.out (by rw [HFx.out, hq]; rfl))
            rw [hq] at n1 e1
            clear hq
            go_quiet (fail)
            go_wp2_with fail
            go_roundw
            case rel => exact ⟨k + 1, by omega, by go_num, by rw [HS.out]; exact HO2.out, below_drewN7 HB2.out nq⟩
            case measure => simp [intOf]; omega
    · have HE := Lib.hid (filter_done (f := f) hlt)
      have hlt1 : decide ((k : Int) < (T.length : Int)) = false := decide_eq_false (by omega)
      rw [HE.out] at HO
      obtain ⟨va, vc, rfl⟩ := own_slice HO.out
      have HO := Lib.hid (own_mono HO.out HB0.out.size)
      have HB := Lib.hid (HB0.out.trans (HB.out.mono HB0.out.size))
      go_wp2_with fail
      go_ret
      exact givesLines_of rfl HO.out HB.out

set_option maxRecDepth 100000 in
set_option maxHeartbeats 4000000 in
theorem rcand1_any (a : Option Addr) (ca : Nat) (ps : List L) (i : Nat) (w : World) (hp : LinesAt w a ps) (hv : vp ps = 0) (hi : i < ps.length) :
    Calls Tryz.prog 49 #[.slice a ps.length ca, .int .i64 (i : Int), .int .i64 1] w (GivesLines (cndL ps i 1) w) := by
  obtain ⟨i0, hI, hz0, hz1, hz2⟩ := info_parts info_line
  obtain ⟨h8, hvl⟩ := vp_ok hv
  obtain ⟨b, off, l, rfl, hlb, hl, c0, c1, c2, c3⟩ := hp.at_ hi
  have hvl := hvl l (mem_of_get hl)
  have HA := Lib.hid (fun w => rAll_any w)
  have HN := Lib.hid (fun m w hm => rnear_any l m w hvl hm)
  have HAL := Lib.hid (fun m (h : m ∈ allL) => allL_mem.1 h)
  have HFF := Lib.hid (show ∀ m, (fun m => isKd ps i 1 m && !eqL m (lnD ps i)) m = ((hasL ps m) && !eqL m l) from fun m => by rw [← lnD_at hl]; rfl)
  have HP := Lib.hid hp
  have HL := Lib.hid (show ∀ W, Below w.heap.size w W → W.cell? ⟨b, off + i * 4, none⟩ = some (.int .i64 l.op) ∧ W.cell? ⟨b, off + i * 4 + 1, none⟩ = some (.int .i64 l.to) ∧ W.cell? ⟨b, off + i * 4 + 2, none⟩ = some (.int .i64 l.a) ∧ W.cell? ⟨b, off + i * 4 + 3, none⟩ = some (.int .i64 l.b) from fun W hB =>
    ⟨(hB.cell (p := ⟨b, _, none⟩) hlb).trans c0, (hB.cell (p := ⟨b, _, none⟩) hlb).trans c1, (hB.cell (p := ⟨b, _, none⟩) hlb).trans c2, (hB.cell (p := ⟨b, _, none⟩) hlb).trans c3⟩)
  have i1 : (0 : Int) ≤ (i : Int) := by omega
  have i2 : (i : Int) < (ps.length : Int) := by omega
  have hln := allL_len9
  rw [cnd_filter]
  generalize (fun m => isKd ps i 1 m && !eqL m (lnD ps i)) = f at *
  generalize allL = T at *
  clear hp hv hl hvl c0 c1 c2 c3
  unfold lv at HN
  go_enter Tryz.func49, Tryz.ntmps49
  go_wp2_with fail
  refine (HA.out _).mono ?_
  rintro e w1 ⟨a1, k1, rfl, hq, hB⟩
  have HT := Lib.hid (lines_of_own hq).1
  have HB0 := Lib.hid hB
  have HP := Lib.hid (HP.out.below hB (Nat.le_refl _))
  have HL := Lib.hid (show ∀ W, Below w1.heap.size w1 W → _ from fun W h => HL.out W (HB0.out.trans (h.mono HB0.out.size)))
  have HLT := Lib.hid (show b < w1.heap.size from Nat.lt_of_lt_of_le hlb HB0.out.size)
  clear hq hB hlb
  go_wp2_with fail
  go_loopw [8, 9] (fun s8 s9 wr => ∃ k : Nat, k ≤ T.length ∧ s9 = .int .i64 (k : Int) ∧ wr.ownsRow w1.heap.size 42 4 s8 ((T.take k).filter f).length (lc ((T.take k).filter f)) ∧ Below w1.heap.size w1 wr) (fun _ s9 _ => T.length - (intOf s9).toNat)
  case atStart => exact ⟨0, Nat.zero_le _, rfl, World.ownsRow_nil _ _ _ _, Below.refl _ _⟩
  case round =>
    obtain ⟨k, hk, rfl, hO, hB⟩ := hrel
    have HO := Lib.hid hO
    have HB := Lib.hid hB
    clear hO hB
    by_cases hlt : k < T.length
    · have hlt1 : decide ((k : Int) < (T.length : Int)) = true := decide_eq_true (by omega)
      obtain ⟨tb, toff, x, rfl, htl, hx, d0, d1, d2, d3⟩ := (HT.out.below HB.out (Nat.le_refl _)).at_ hlt
      have HDT := Lib.hid (show ∀ W, Below wr.heap.size wr W → W.cell? ⟨tb, toff + k * 4, none⟩ = some (.int .i64 x.op) ∧ W.cell? ⟨tb, toff + k * 4 + 1, none⟩ = some (.int .i64 x.to) ∧ W.cell? ⟨tb, toff + k * 4 + 2, none⟩ = some (.int .i64 x.a) ∧ W.cell? ⟨tb, toff + k * 4 + 3, none⟩ = some (.int .i64 x.b) from fun W hB =>
        ⟨(hB.cell (p := ⟨tb, _, none⟩) htl).trans d0, (hB.cell (p := ⟨tb, _, none⟩) htl).trans d1, (hB.cell (p := ⟨tb, _, none⟩) htl).trans d2, (hB.cell (p := ⟨tb, _, none⟩) htl).trans d3⟩)
      obtain ⟨c0, c1, c2, c3⟩ := HL.out wr HB.out
      have HX := Lib.hid hx
      have HFx := Lib.hid (HFF.out x)
      have hfl := filter_len9 (T := T) (f := f) (k := k) hln
      have HY := Lib.hid (fun h => filter_hit (T := T) (f := f) (k := k) (x := x) hx h)
      have HN0 := Lib.hid (fun h => filter_miss (T := T) (f := f) (k := k) (x := x) hx h)
      have e1 := run_eqL x l
      have n1 := run_neL x l
      have hbw := HLT.out
      clear hx HN HAL HFF
      generalize (T.take k).filter f = LS at *
      go_wp2_with fail
      go_quiet (fail)
      have HO2 := Lib.hid (show (wr.drewN nq).ownsRow w1.heap.size 42 4 _ LS.length (lc LS) from HO.out)
      have HB2 := Lib.hid (below_drewN7 HB.out nq)
      have HDT := Lib.hid (show ∀ W, Below (wr.drewN nq).heap.size (wr.drewN nq) W → _ from fun W h => HDT.out W ((below_drewN7 (Below.refl _ _) nq).trans h))
      have htl2 : tb < (wr.drewN nq).heap.size := htl
      clear HO HB c0 c1 c2 c3 d0 d1 d2 d3 e1 htl
      generalize wr.drewN nq = W2 at *
      go_wp2_with fail
      go_loopw [10, 11] (fun s10 s11 wx => ∃ m : Nat, m ≤ ps.length ∧ s11 = .int .i64 (m : Int) ∧ s10 = .bool ((ps.take m).any fun y => eqL y x) ∧ Below W2.heap.size W2 wx) (fun _ s11 _ => ps.length - (intOf s11).toNat)
      case atStart => exact ⟨0, Nat.zero_le _, rfl, by rfl, Below.refl _ _⟩
      case round =>
        obtain ⟨m, hm, rfl, rfl, hBm⟩ := hrel
        have HBM := Lib.hid hBm
        clear hBm
        obtain ⟨d0, d1, d2, d3⟩ := HDT.out _ HBM.out
        by_cases hlm : m < ps.length
        · have hlm1 : decide ((m : Int) < (ps.length : Int)) = true := decide_eq_true (by omega)
          obtain ⟨pb, poff, y, epb, hpb, hy, y0, y1, y2, y3⟩ := (HP.out.below (HB2.out.trans (HBM.out.mono HB2.out.size)) (Nat.le_refl _)).at_ hlm
          injection epb with epb
          injection epb with ep1 ep2 ep3
          subst ep1
          subst ep2
          have HAN := Lib.hid (any_take2 (f := fun y => eqL y x) hy)
          have r1 := run_eqL y x
          clear hy
          cases hJ : (ps.take m).any (fun y => eqL y x)
          · rw [hJ] at HAN
            go_wp2_with fail
            go_quiet (fail)
            go_wp2_with fail
            go_roundw
            case rel => exact ⟨m + 1, by omega, by go_num, by rw [HAN.out]; rfl, below_drewN7 HBM.out nq⟩
            case measure => simp [intOf]; omega
          · rw [hJ] at HAN
            go_wp2_with fail
            go_quiet (fail)
            go_wp2_with fail
            go_roundw
            case rel => exact ⟨m + 1, by omega, by go_num, by rw [HAN.out]; rfl, below_drewN7 HBM.out nq⟩
            case measure => simp [intOf]; omega
        have HI2 := Lib.hid (any_eqL (ps := ps) (x := x) hlm)
        rw [HI2.out]
        generalize hasL ps x = I at *
        have hlm1 : decide ((m : Int) < (ps.length : Int)) = false := decide_eq_false (by omega)
        have HO2 := Lib.hid (own_below HO2.out HBM.out (Nat.le_refl _))
        obtain ⟨c0, c1, c2, c3⟩ := HL.out _ (HB2.out.trans (HBM.out.mono HB2.out.size))
        have HB2 := Lib.hid (HB2.out.trans (HBM.out.mono HB2.out.size))
        have e1 := run_eqL x l
        clear HBM HI2
        go_wp2_with fail
        have HV := Lib.hid HB2.out.size
        cases I
        · have HS := Lib.hid (HN0.out (by rw [HFx.out]; rfl))
          go_quiet (fail)
          go_wp2_with fail
          go_roundw
          case rel => exact ⟨k + 1, by omega, by go_num, by rw [HS.out]; exact HO2.out, below_drewN7 HB2.out nq⟩
          case measure => simp [intOf]; omega
        · cases hq : eqL x l
          · have HS := Lib.hid (HY.out (by rw [HFx.out, hq]; rfl))
            rw [hq] at n1 e1
            clear hq
            go_quiet (fail)
            have HO3 := Lib.hid (show (wr.drewN nq).ownsRow w1.heap.size 42 4 _ LS.length (lc LS) from HO2.out)
            have HB3 := Lib.hid (below_drewN7 HB2.out nq)
            have d0 : (wr.drewN nq).cell? _ = _ := d0
            have d1 : (wr.drewN nq).cell? _ = _ := d1
            have d2 : (wr.drewN nq).cell? _ = _ := d2
            have d3 : (wr.drewN nq).cell? _ = _ := d3
            clear c0 c1 c2 c3 HO2 HB2 HV
            generalize wr.drewN nq = W3 at *
            obtain ⟨va, vc, rfl⟩ := own_slice HO3.out
            have hal2 : Below W3.heap.size W3 (W3.alloc (.cells (lV x) 42)) := (Below.refl _ _).alloc (Nat.le_refl _) _
            have HO2 := Lib.hid (own_below HO3.out hal2 (Nat.le_refl _))
            have HB2 := Lib.hid (HB3.out.trans (hal2.mono HB3.out.size))
            have HC := Lib.hid (cells_newL W3 x)
            unfold lV at HO2 HB2 HC
            clear hal2 HO3 HB3
            go_wp2_with (at_builtin; (refine wpList_append_own _ rfl (.tmp 70) (.tmp 75) 22 rfl w1.heap.size 42 i0 (.agg #[.int .i64 0, .int .i64 0, .int .i64 0, .int .i64 0]) 4 32 Tryz.underlying22 hI hz0 hz1 hz2 rfl (by decide) (.slice va LS.length vc) LS.length (lc LS) rfl HO2.out ⟨W3.heap.size, 0, none⟩ 1 1 (lc [x]) rfl ?c1 ?c2 ?c3 ?c4 ?c5 ?c6 ?_))
            case c1 => rfl
            case c2 => first | exact HC.out | exact fun j u h => h
            case c3 => exact lc_one _
            case c4 => simp [maxLen]; omega
            case c5 => omega
            case c6 => first | exact HB2.out.size | (have h9 := HB2.out.size; simp at h9; omega)
            intro v' w5 hown hgrow _
            have HB5 := Lib.hid (HB2.out.grown hgrow HB2.out.size (by rintro k hk; exact (HO2.out.lt k hk).1))
            have HO5 := Lib.hid (lines_snoc hown)
            clear hown hgrow
            go_wp2_with fail
            go_roundw
            case rel => exact ⟨k + 1, by omega, by go_num, by rw [HS.out, List.length_append]; exact HO5.out, HB5.out⟩
            case measure => simp [intOf]; omega
          · have HS := Lib.hid (HN0.out (by rw [HFx.out, hq]; rfl))
            rw [hq] at n1 e1
            clear hq
            go_quiet (fail)
            go_wp2_with fail
            go_roundw
            case rel => exact ⟨k + 1, by omega, by go_num, by rw [HS.out]; exact HO2.out, below_drewN7 HB2.out nq⟩
            case measure => simp [intOf]; omega
    · have HE := Lib.hid (filter_done (f := f) hlt)
      have hlt1 : decide ((k : Int) < (T.length : Int)) = false := decide_eq_false (by omega)
      rw [HE.out] at HO
      obtain ⟨va, vc, rfl⟩ := own_slice HO.out
      have HO := Lib.hid (own_mono HO.out HB0.out.size)
      have HB := Lib.hid (HB0.out.trans (HB.out.mono HB0.out.size))
      go_wp2_with fail
      go_ret
      exact givesLines_of rfl HO.out HB.out

set_option maxRecDepth 100000 in
set_option maxHeartbeats 4000000 in
theorem rcand2_any (a : Option Addr) (ca : Nat) (ps : List L) (i : Nat) (w : World) (hp : LinesAt w a ps) (hv : vp ps = 0) (hi : i < ps.length) :
    Calls Tryz.prog 49 #[.slice a ps.length ca, .int .i64 (i : Int), .int .i64 2] w (GivesLines (cndL ps i 2) w) := by
  obtain ⟨i0, hI, hz0, hz1, hz2⟩ := info_parts info_line
  obtain ⟨h8, hvl⟩ := vp_ok hv
  obtain ⟨b, off, l, rfl, hlb, hl, c0, c1, c2, c3⟩ := hp.at_ hi
  have hvl := hvl l (mem_of_get hl)
  have HA := Lib.hid (fun w => rAll_any w)
  have HN := Lib.hid (fun m w hm => rnear_any l m w hvl hm)
  have HAL := Lib.hid (fun m (h : m ∈ allL) => allL_mem.1 h)
  have HFF := Lib.hid (show ∀ m, (fun m => isKd ps i 2 m && !eqL m (lnD ps i)) m = ((true) && !eqL m l) from fun m => by rw [← lnD_at hl]; rfl)
  have HP := Lib.hid hp
  have HL := Lib.hid (show ∀ W, Below w.heap.size w W → W.cell? ⟨b, off + i * 4, none⟩ = some (.int .i64 l.op) ∧ W.cell? ⟨b, off + i * 4 + 1, none⟩ = some (.int .i64 l.to) ∧ W.cell? ⟨b, off + i * 4 + 2, none⟩ = some (.int .i64 l.a) ∧ W.cell? ⟨b, off + i * 4 + 3, none⟩ = some (.int .i64 l.b) from fun W hB =>
    ⟨(hB.cell (p := ⟨b, _, none⟩) hlb).trans c0, (hB.cell (p := ⟨b, _, none⟩) hlb).trans c1, (hB.cell (p := ⟨b, _, none⟩) hlb).trans c2, (hB.cell (p := ⟨b, _, none⟩) hlb).trans c3⟩)
  have i1 : (0 : Int) ≤ (i : Int) := by omega
  have i2 : (i : Int) < (ps.length : Int) := by omega
  have hln := allL_len9
  rw [cnd_filter]
  generalize (fun m => isKd ps i 2 m && !eqL m (lnD ps i)) = f at *
  generalize allL = T at *
  clear hp hv hl hvl c0 c1 c2 c3
  unfold lv at HN
  go_enter Tryz.func49, Tryz.ntmps49
  go_wp2_with fail
  refine (HA.out _).mono ?_
  rintro e w1 ⟨a1, k1, rfl, hq, hB⟩
  have HT := Lib.hid (lines_of_own hq).1
  have HB0 := Lib.hid hB
  have HP := Lib.hid (HP.out.below hB (Nat.le_refl _))
  have HL := Lib.hid (show ∀ W, Below w1.heap.size w1 W → _ from fun W h => HL.out W (HB0.out.trans (h.mono HB0.out.size)))
  have HLT := Lib.hid (show b < w1.heap.size from Nat.lt_of_lt_of_le hlb HB0.out.size)
  clear hq hB hlb
  go_wp2_with fail
  go_loopw [8, 9] (fun s8 s9 wr => ∃ k : Nat, k ≤ T.length ∧ s9 = .int .i64 (k : Int) ∧ wr.ownsRow w1.heap.size 42 4 s8 ((T.take k).filter f).length (lc ((T.take k).filter f)) ∧ Below w1.heap.size w1 wr) (fun _ s9 _ => T.length - (intOf s9).toNat)
  case atStart => exact ⟨0, Nat.zero_le _, rfl, World.ownsRow_nil _ _ _ _, Below.refl _ _⟩
  case round =>
    obtain ⟨k, hk, rfl, hO, hB⟩ := hrel
    have HO := Lib.hid hO
    have HB := Lib.hid hB
    clear hO hB
    by_cases hlt : k < T.length
    · have hlt1 : decide ((k : Int) < (T.length : Int)) = true := decide_eq_true (by omega)
      obtain ⟨tb, toff, x, rfl, htl, hx, d0, d1, d2, d3⟩ := (HT.out.below HB.out (Nat.le_refl _)).at_ hlt
      have HDT := Lib.hid (show ∀ W, Below wr.heap.size wr W → W.cell? ⟨tb, toff + k * 4, none⟩ = some (.int .i64 x.op) ∧ W.cell? ⟨tb, toff + k * 4 + 1, none⟩ = some (.int .i64 x.to) ∧ W.cell? ⟨tb, toff + k * 4 + 2, none⟩ = some (.int .i64 x.a) ∧ W.cell? ⟨tb, toff + k * 4 + 3, none⟩ = some (.int .i64 x.b) from fun W hB =>
        ⟨(hB.cell (p := ⟨tb, _, none⟩) htl).trans d0, (hB.cell (p := ⟨tb, _, none⟩) htl).trans d1, (hB.cell (p := ⟨tb, _, none⟩) htl).trans d2, (hB.cell (p := ⟨tb, _, none⟩) htl).trans d3⟩)
      obtain ⟨c0, c1, c2, c3⟩ := HL.out wr HB.out
      have HX := Lib.hid hx
      have HFx := Lib.hid (HFF.out x)
      have hfl := filter_len9 (T := T) (f := f) (k := k) hln
      have HY := Lib.hid (fun h => filter_hit (T := T) (f := f) (k := k) (x := x) hx h)
      have HN0 := Lib.hid (fun h => filter_miss (T := T) (f := f) (k := k) (x := x) hx h)
      have e1 := run_eqL x l
      have n1 := run_neL x l
      have hbw := HLT.out
      clear hx HN HAL HFF
      obtain ⟨I, hI2⟩ : ∃ I : Bool, I = true := ⟨_, rfl⟩
      have HI2 := Lib.hid hI2
      rw [show (true && !eqL x l) = (I && !eqL x l) by rw [hI2]] at HFx
      generalize (T.take k).filter f = LS at *
      go_wp2_with fail
      go_quiet (fail)
      have HO2 := Lib.hid (show (wr.drewN nq).ownsRow w1.heap.size 42 4 _ LS.length (lc LS) from HO.out)
      have HB2 := Lib.hid (below_drewN7 HB.out nq)
      have c0 : (wr.drewN nq).cell? _ = _ := c0
      have c1 : (wr.drewN nq).cell? _ = _ := c1
      have c2 : (wr.drewN nq).cell? _ = _ := c2
      have c3 : (wr.drewN nq).cell? _ = _ := c3
      have d0 : (wr.drewN nq).cell? _ = _ := d0
      have d1 : (wr.drewN nq).cell? _ = _ := d1
      have d2 : (wr.drewN nq).cell? _ = _ := d2
      have d3 : (wr.drewN nq).cell? _ = _ := d3
      have htl2 : tb < (wr.drewN nq).heap.size := htl
      clear HO HB HDT
      generalize wr.drewN nq = W2 at *
      clear hI2
      go_wp2_with fail
      go_loopw [10, 11] (fun s10 s11 wx => s10 = .bool I ∧ s11 = .int .i64 0 ∧ wx = W2) (fun _ _ _ => 0)
      case atStart => exact ⟨by rw [HI2.out], rfl, rfl⟩
      case round =>
        obtain ⟨rfl, rfl, rfl⟩ := hrel
        go_wp2_with fail
        have HV := Lib.hid HB2.out.size
        cases I
        · have HS := Lib.hid (HN0.out (by rw [HFx.out]; rfl))
          go_quiet (fail)
          go_wp2_with fail
          go_roundw
          case rel => exact ⟨k + 1, by omega, by go_num, by rw [HS.out]; exact HO2.out, below_drewN7 HB2.out nq⟩
          case measure => simp [intOf]; omega
        · cases hq : eqL x l
          · have HS := Lib.hid (HY.out (by rw [HFx.out, hq]; rfl))
            rw [hq] at n1 e1
            clear hq
            go_quiet (fail)
            have HO3 := Lib.hid (show (wr.drewN nq).ownsRow w1.heap.size 42 4 _ LS.length (lc LS) from HO2.out)
            have HB3 := Lib.hid (below_drewN7 HB2.out nq)
            have d0 : (wr.drewN nq).cell? _ = _ := d0
            have d1 : (wr.drewN nq).cell? _ = _ := d1
            have d2 : (wr.drewN nq).cell? _ = _ := d2
            have d3 : (wr.drewN nq).cell? _ = _ := d3
            clear c0 c1 c2 c3 HO2 HB2 HV
            generalize wr.drewN nq = W3 at *
            obtain ⟨va, vc, rfl⟩ := own_slice HO3.out
            have hal2 : Below W3.heap.size W3 (W3.alloc (.cells (lV x) 42)) := (Below.refl _ _).alloc (Nat.le_refl _) _
            have HO2 := Lib.hid (own_below HO3.out hal2 (Nat.le_refl _))
            have HB2 := Lib.hid (HB3.out.trans (hal2.mono HB3.out.size))
            have HC := Lib.hid (cells_newL W3 x)
            unfold lV at HO2 HB2 HC
            clear hal2 HO3 HB3
            go_wp2_with (at_builtin; (refine wpList_append_own _ rfl (.tmp 70) (.tmp 75) 22 rfl w1.heap.size 42 i0 (.agg #[.int .i64 0, .int .i64 0, .int .i64 0, .int .i64 0]) 4 32 Tryz.underlying22 hI hz0 hz1 hz2 rfl (by decide) (.slice va LS.length vc) LS.length (lc LS) rfl HO2.out ⟨W3.heap.size, 0, none⟩ 1 1 (lc [x]) rfl ?c1 ?c2 ?c3 ?c4 ?c5 ?c6 ?_))
            case c1 => rfl
            case c2 => first | exact HC.out | exact fun j u h => h
            case c3 => exact lc_one _
            case c4 => simp [maxLen]; omega
            case c5 => omega
            case c6 => first | exact HB2.out.size | (have h9 := HB2.out.size; simp at h9; omega)
            intro v' w5 hown hgrow _
            have HB5 := Lib.hid (HB2.out.grown hgrow HB2.out.size (by rintro k hk; exact (HO2.out.lt k hk).1))
            have HO5 := Lib.hid (lines_snoc hown)
            clear hown hgrow
            go_wp2_with fail
            go_roundw
            case rel => exact ⟨k + 1, by omega, by go_num, by rw [HS.out, List.length_append]; exact HO5.out, HB5.out⟩
            case measure => simp [intOf]; omega
          · have HS := Lib.hid (HN0.out (by rw [HFx.out, hq]; rfl))
            rw [hq] at n1 e1
            clear hq
            go_quiet (fail)
            go_wp2_with fail
            go_roundw
            case rel => exact ⟨k + 1, by omega, by go_num, by rw [HS.out]; exact HO2.out, below_drewN7 HB2.out nq⟩
            case measure => simp [intOf]; omega
    · have HE := Lib.hid (filter_done (f := f) hlt)
      have hlt1 : decide ((k : Int) < (T.length : Int)) = false := decide_eq_false (by omega)
      rw [HE.out] at HO
      obtain ⟨va, vc, rfl⟩ := own_slice HO.out
      have HO := Lib.hid (own_mono HO.out HB0.out.size)
      have HB := Lib.hid (HB0.out.trans (HB.out.mono HB0.out.size))
      go_wp2_with fail
      go_ret
      exact givesLines_of rfl HO.out HB.out

end Go.Proofs.YtfclfmloceddfaaGreat
