/- goesOn, skips, written, after of boxes: contracts. -/
import Derived.Test.YtmpgaccpdglhkaaSpB
import Derived.Test.YtmpgaccpdglhkaaLineC
set_option linter.unusedVariables false
set_option linter.unusedSimpArgs false
namespace Go.Proofs.Ytmpgaccpdglhkaa
open Go.RowKit Tinker

theorem gcell {x0 x1 x2 x3 : Rg} {n : Int} (h0 : 0 ≤ n) (h3 : n ≤ 3) : (#[.int .i64 x0.lo, .int .i64 x0.hi, .int .i64 x1.lo, .int .i64 x1.hi, .int .i64 x2.lo, .int .i64 x2.hi, .int .i64 x3.lo, .int .i64 x3.hi] : Array Value)[n.toNat * 2]? = some (.int .i64 (gAt [x0, x1, x2, x3] n).lo) ∧
    (#[.int .i64 x0.lo, .int .i64 x0.hi, .int .i64 x1.lo, .int .i64 x1.hi, .int .i64 x2.lo, .int .i64 x2.hi, .int .i64 x3.lo, .int .i64 x3.hi] : Array Value)[n.toNat * 2 + 1]? = some (.int .i64 (gAt [x0, x1, x2, x3] n).hi) := by
  rcases (show n = 0 ∨ n = 1 ∨ n = 2 ∨ n = 3 by omega) with rfl | rfl | rfl | rfl <;> exact ⟨rfl, rfl⟩
theorem hp3 (w : World) (o1 o2 o3 : Obj) : (((w.alloc o1).alloc o2).alloc o3).heap[w.heap.size + 1 + 1]? = some o3 := hp_new (by simp)
theorem below_dn {B q : Nat} {w w' : World} (h : Below B w w') : Below B w (w'.drewN q) := h.trans ⟨rfl, rfl, rfl, Nat.le_refl _, fun _ _ => rfl⟩

set_option maxRecDepth 100000 in
set_option maxHeartbeats 1000000 in
theorem goesOn_any (b : List Rg) (l : L) (w : World) (h4 : b.length = 4) (hl : isLn l = true) :
    Calls Try.prog 87 #[bx b, lv l] w fun e w' => e = .returned (.bool (goB l b)) ∧ Below w.heap.size w w' := by
  have ha := isLn_a hl
  have hb := isLn_b hl
  obtain ⟨x0, x1, x2, x3, rfl⟩ := rg_list4 h4
  unfold lv goB
  rw [bx_4]
  by_cases h7 : l.op = 7
  · skip
    obtain ⟨a0, a3⟩ := ha (by omega)
    obtain ⟨b0, b3⟩ := hb (by omega)
    obtain ⟨ga, gb⟩ := gcell (x0 := x0) (x1 := x1) (x2 := x2) (x3 := x3) a0 a3
    obtain ⟨ga', gb'⟩ := gcell (x0 := x0) (x1 := x1) (x2 := x2) (x3 := x3) b0 b3
    rw [h7]
    generalize gAt [x0, x1, x2, x3] l.a = ya at *
    generalize gAt [x0, x1, x2, x3] l.b = yb at *
    have t1 : l.a < 4 := by omega
    have t2 : l.b < 4 := by omega
    clear ha hb h4 hl h7
    go_enter Try.func87, Try.ntmps87
    go_wp2_with fail
    go_quiet (fail)
    go_wp2_with fail
    go_ret
    exact ⟨ret_bool (by simp), below_dn (((Below.refl _ _).alloc (Nat.le_refl _) _).alloc (by simp) _)⟩
  · have e1 : (l.op != 7) = true := by simpa using h7
    have e2 : (l.op == 7) = false := by simpa using h7
    rw [e1]
    clear ha hb h4 hl h7
    go_enter Try.func87, Try.ntmps87
    go_wp2_with fail
    go_quiet (fail)
    go_wp2_with fail
    go_ret
    exact ⟨ret_bool (by simp), below_dn (((Below.refl _ _).alloc (Nat.le_refl _) _).alloc (by simp) _)⟩

set_option maxRecDepth 100000 in
set_option maxHeartbeats 1000000 in
theorem skips_any (b : List Rg) (l : L) (w : World) (h4 : b.length = 4) (hl : isLn l = true) :
    Calls Try.prog 89 #[bx b, lv l] w fun e w' => e = .returned (.bool (skpB l b)) ∧ Below w.heap.size w w' := by
  have ha := isLn_a hl
  have hb := isLn_b hl
  obtain ⟨x0, x1, x2, x3, rfl⟩ := rg_list4 h4
  unfold lv skpB
  rw [bx_4]
  by_cases h7 : l.op = 7
  · skip
    obtain ⟨a0, a3⟩ := ha (by omega)
    obtain ⟨b0, b3⟩ := hb (by omega)
    obtain ⟨ga, gb⟩ := gcell (x0 := x0) (x1 := x1) (x2 := x2) (x3 := x3) a0 a3
    obtain ⟨ga', gb'⟩ := gcell (x0 := x0) (x1 := x1) (x2 := x2) (x3 := x3) b0 b3
    rw [h7]
    generalize gAt [x0, x1, x2, x3] l.a = ya at *
    generalize gAt [x0, x1, x2, x3] l.b = yb at *
    have t1 : l.a < 4 := by omega
    have t2 : l.b < 4 := by omega
    cases hne : (l.a != l.b)
    · have hne2 : (l.a == l.b) = true := by simpa using hne
      clear ha hb h4 hl h7
      go_enter Try.func89, Try.ntmps89
      go_wp2_with fail
      go_quiet (fail)
      go_wp2_with fail
      go_ret
      exact ⟨ret_bool (by simp), below_dn (((Below.refl _ _).alloc (Nat.le_refl _) _).alloc (by simp) _)⟩
    · have hne2 : (l.a == l.b) = false := by simpa using hne
      clear ha hb h4 hl h7
      go_enter Try.func89, Try.ntmps89
      go_wp2_with fail
      go_quiet (fail)
      go_wp2_with fail
      go_ret
      exact ⟨ret_bool (by simp), below_dn (((Below.refl _ _).alloc (Nat.le_refl _) _).alloc (by simp) _)⟩
  · have e1 : (l.op != 7) = true := by simpa using h7
    have e2 : (l.op == 7) = false := by simpa using h7
    rw [e2]
    clear ha hb h4 hl h7
    go_enter Try.func89, Try.ntmps89
    go_wp2_with fail
    go_quiet (fail)
    go_wp2_with fail
    go_ret
    exact ⟨ret_bool (by simp), below_dn (((Below.refl _ _).alloc (Nat.le_refl _) _).alloc (by simp) _)⟩

set_option maxRecDepth 100000 in
set_option maxHeartbeats 4000000 in
theorem written_any (b : List Rg) (l : L) (w : World) (hb : OkB b) (hl : isLn l = true) (hw : Tinker.wr l = true) :
    Calls Try.prog 115 #[bx b, lv l] w fun e w' => e = .returned (gv (rawG l b)) ∧ Below w.heap.size w w' := by
  have ha := isLn_a hl
  have hbb := isLn_b hl
  have ho := isLn_op hl
  have hw := wr_iff.1 hw
  have h4 := hb.l4
  obtain ⟨x0, x1, x2, x3, rfl⟩ := rg_list4 h4
  clear h4
  unfold lv
  rw [bx_4]
  rcases (show l.op = 1 ∨ l.op = 2 ∨ l.op = 3 ∨ l.op = 4 ∨ l.op = 5 ∨ l.op = 6 by omega) with h7 | h7 | h7 | h7 | h7 | h7
  · have hsem : rawG l [x0, x1, x2, x3] = ⟨l.a, l.a⟩ := by unfold rawG; rw [if_pos h7]
    rw [hsem, h7]
    clear ha hbb hb hl h7 hw hsem ho
    go_enter Try.func115, Try.ntmps115
    go_wp2_with fail
    refine (ivOnly_any l.a _).mono ?_
    rintro e wa ⟨rfl, hBa⟩
    have HBA := Lib.hid (((((Below.refl _ _).alloc (Nat.le_refl _) _).alloc (by simp) _).alloc (by simp only [World.size_alloc]; omega) _).trans (hBa.mono (by simp only [World.size_alloc]; omega)))
    have HRA := Lib.hid (hp_below (hp3 w _ _ _) hBa (by first | omega | (simp; done) | (simp; omega)))
    have z0 : wa.cell? ⟨w.heap.size + 1 + 1, 0, none⟩ = some (.int .i64 0) := hp_cell HRA.out rfl
    have z1 : wa.cell? ⟨w.heap.size + 1 + 1, 1, none⟩ = some (.int .i64 0) := hp_cell HRA.out rfl
    have f0 := hp_free HRA.out 0
    have f1 := hp_free HRA.out 1
    clear hBa
    unfold gv
    go_wp2_with fail
    exact bodyPost_ret (results_cell_row (p := 4) (ty := 67) rfl _ _ (w.heap.size + 1 + 1) 67 _ (0, 0) _ (by rfl) (hp_put (hp_put HRA.out 0 _) 1 _) Try.underlying67 rfl (by kernel_rfl)) rfl ⟨rfl, (HBA.out.setCell (p := ⟨_, _, none⟩) (by show w.heap.size ≤ w.heap.size + 1 + 1; omega) _).setCell (p := ⟨_, _, none⟩) (by show w.heap.size ≤ w.heap.size + 1 + 1; omega) _⟩
  · obtain ⟨a0, a3⟩ := ha (by omega)
    obtain ⟨ga, gb⟩ := gcell (x0 := x0) (x1 := x1) (x2 := x2) (x3 := x3) a0 a3
    have hsem : rawG l [x0, x1, x2, x3] = gAt [x0, x1, x2, x3] l.a := by unfold rawG; rw [h7]; rfl
    rw [hsem, h7]
    generalize gAt [x0, x1, x2, x3] l.a = ya at *
    have t1 : l.a < 4 := by omega
    clear ha hbb hb hl h7 hw hsem ho
    unfold gv
    go_enter Try.func115, Try.ntmps115
    go_wp2_with fail
    exact bodyPost_ret (results_cell_row (p := 4) (ty := 67) rfl _ _ (w.heap.size + 1 + 1) 67 _ (0, 0) _ (by rfl) (hp_new (by simp)) Try.underlying67 rfl (by kernel_rfl)) rfl ⟨rfl, (((Below.refl _ _).alloc (Nat.le_refl _) _).alloc (by simp) _).alloc (by simp only [World.size_alloc]; omega) _⟩
  · obtain ⟨a0, a3⟩ := ha (by omega)
    obtain ⟨b0, b3⟩ := hbb (by omega)
    obtain ⟨ga, gb⟩ := gcell (x0 := x0) (x1 := x1) (x2 := x2) (x3 := x3) a0 a3
    obtain ⟨ga', gb'⟩ := gcell (x0 := x0) (x1 := x1) (x2 := x2) (x3 := x3) b0 b3
    have oa := hb.g a0 a3
    have ob := hb.g b0 b3
    have hsem : rawG l [x0, x1, x2, x3] = ⟨(gAt [x0, x1, x2, x3] l.a).lo + (gAt [x0, x1, x2, x3] l.b).lo, (gAt [x0, x1, x2, x3] l.a).hi + (gAt [x0, x1, x2, x3] l.b).hi⟩ := by unfold rawG; rw [h7]; rfl
    rw [hsem, h7]
    generalize gAt [x0, x1, x2, x3] l.a = ya at *
    generalize gAt [x0, x1, x2, x3] l.b = yb at *
    have t1 : l.a < 4 := by omega
    have t2 : l.b < 4 := by omega
    clear ha hbb hb hl h7 hw hsem ho
    go_enter Try.func115, Try.ntmps115
    go_wp2_with fail
    go_region_with (go_at_call 135; refine (ivPlus_any ya yb _ oa ob).mono ?_; rintro e wa ⟨rfl, hBa⟩; unfold gv; have HBA := Lib.hid ((((((Below.refl _ _).alloc (Nat.le_refl _) _).alloc (by simp) _).alloc (by simp only [World.size_alloc]; omega) _).drew).trans (hBa.mono (by first | omega | (simp; omega)))); have HRA := Lib.hid (hp_below (hp_drew (hp3 w _ _ _)) hBa (by first | omega | (simp; done) | (simp; omega))); have z0 : wa.cell? ⟨w.heap.size + 1 + 1, 0, none⟩ = some (.int .i64 0) := hp_cell HRA.out rfl; have z1 : wa.cell? ⟨w.heap.size + 1 + 1, 1, none⟩ = some (.int .i64 0) := hp_cell HRA.out rfl; have f0 := hp_free HRA.out 0; have f1 := hp_free HRA.out 1; clear hBa)
    all_goals go_wp2_with fail
    all_goals exact bodyPost_ret (results_cell_row (p := 4) (ty := 67) rfl _ _ (w.heap.size + 1 + 1) 67 _ (0, 0) _ (by rfl) (hp_put (hp_put HRA.out 0 _) 1 _) Try.underlying67 rfl (by kernel_rfl)) rfl ⟨rfl, (HBA.out.setCell (p := ⟨_, _, none⟩) (by show w.heap.size ≤ w.heap.size + 1 + 1; omega) _).setCell (p := ⟨_, _, none⟩) (by show w.heap.size ≤ w.heap.size + 1 + 1; omega) _⟩
  · obtain ⟨a0, a3⟩ := ha (by omega)
    obtain ⟨b0, b3⟩ := hbb (by omega)
    obtain ⟨ga, gb⟩ := gcell (x0 := x0) (x1 := x1) (x2 := x2) (x3 := x3) a0 a3
    obtain ⟨ga', gb'⟩ := gcell (x0 := x0) (x1 := x1) (x2 := x2) (x3 := x3) b0 b3
    have oa := hb.g a0 a3
    have ob := hb.g b0 b3
    have hsem : rawG l [x0, x1, x2, x3] = ⟨(gAt [x0, x1, x2, x3] l.a).lo - (gAt [x0, x1, x2, x3] l.b).hi, (gAt [x0, x1, x2, x3] l.a).hi - (gAt [x0, x1, x2, x3] l.b).lo⟩ := by unfold rawG; rw [h7]; rfl
    rw [hsem, h7]
    generalize gAt [x0, x1, x2, x3] l.a = ya at *
    generalize gAt [x0, x1, x2, x3] l.b = yb at *
    have t1 : l.a < 4 := by omega
    have t2 : l.b < 4 := by omega
    clear ha hbb hb hl h7 hw hsem ho
    go_enter Try.func115, Try.ntmps115
    go_wp2_with fail
    go_region_with (go_at_call 136; refine (ivMinus_any ya yb _ oa ob).mono ?_; rintro e wa ⟨rfl, hBa⟩; unfold gv; have HBA := Lib.hid ((((((Below.refl _ _).alloc (Nat.le_refl _) _).alloc (by simp) _).alloc (by simp only [World.size_alloc]; omega) _).drew).trans (hBa.mono (by first | omega | (simp; omega)))); have HRA := Lib.hid (hp_below (hp_drew (hp3 w _ _ _)) hBa (by first | omega | (simp; done) | (simp; omega))); have z0 : wa.cell? ⟨w.heap.size + 1 + 1, 0, none⟩ = some (.int .i64 0) := hp_cell HRA.out rfl; have z1 : wa.cell? ⟨w.heap.size + 1 + 1, 1, none⟩ = some (.int .i64 0) := hp_cell HRA.out rfl; have f0 := hp_free HRA.out 0; have f1 := hp_free HRA.out 1; clear hBa)
    all_goals go_wp2_with fail
    all_goals exact bodyPost_ret (results_cell_row (p := 4) (ty := 67) rfl _ _ (w.heap.size + 1 + 1) 67 _ (0, 0) _ (by rfl) (hp_put (hp_put HRA.out 0 _) 1 _) Try.underlying67 rfl (by kernel_rfl)) rfl ⟨rfl, (HBA.out.setCell (p := ⟨_, _, none⟩) (by show w.heap.size ≤ w.heap.size + 1 + 1; omega) _).setCell (p := ⟨_, _, none⟩) (by show w.heap.size ≤ w.heap.size + 1 + 1; omega) _⟩
  · obtain ⟨a0, a3⟩ := ha (by omega)
    obtain ⟨b0, b3⟩ := hbb (by omega)
    obtain ⟨ga, gb⟩ := gcell (x0 := x0) (x1 := x1) (x2 := x2) (x3 := x3) a0 a3
    obtain ⟨ga', gb'⟩ := gcell (x0 := x0) (x1 := x1) (x2 := x2) (x3 := x3) b0 b3
    have oa := hb.g a0 a3
    have ob := hb.g b0 b3
    have hsem : rawG l [x0, x1, x2, x3] = ⟨min (gAt [x0, x1, x2, x3] l.a).lo (gAt [x0, x1, x2, x3] l.b).lo, min (gAt [x0, x1, x2, x3] l.a).hi (gAt [x0, x1, x2, x3] l.b).hi⟩ := by unfold rawG; rw [h7]; rfl
    rw [hsem, h7]
    generalize gAt [x0, x1, x2, x3] l.a = ya at *
    generalize gAt [x0, x1, x2, x3] l.b = yb at *
    have t1 : l.a < 4 := by omega
    have t2 : l.b < 4 := by omega
    clear ha hbb hb hl h7 hw hsem ho
    go_enter Try.func115, Try.ntmps115
    go_wp2_with fail
    go_region_with (go_at_call 137; refine (ivLeast_any ya yb _).mono ?_; rintro e wa ⟨rfl, hBa⟩; unfold gv; have HBA := Lib.hid ((((((Below.refl _ _).alloc (Nat.le_refl _) _).alloc (by simp) _).alloc (by simp only [World.size_alloc]; omega) _).drew).trans (hBa.mono (by first | omega | (simp; omega)))); have HRA := Lib.hid (hp_below (hp_drew (hp3 w _ _ _)) hBa (by first | omega | (simp; done) | (simp; omega))); have z0 : wa.cell? ⟨w.heap.size + 1 + 1, 0, none⟩ = some (.int .i64 0) := hp_cell HRA.out rfl; have z1 : wa.cell? ⟨w.heap.size + 1 + 1, 1, none⟩ = some (.int .i64 0) := hp_cell HRA.out rfl; have f0 := hp_free HRA.out 0; have f1 := hp_free HRA.out 1; clear hBa)
    all_goals go_wp2_with fail
    all_goals exact bodyPost_ret (results_cell_row (p := 4) (ty := 67) rfl _ _ (w.heap.size + 1 + 1) 67 _ (0, 0) _ (by rfl) (hp_put (hp_put HRA.out 0 _) 1 _) Try.underlying67 rfl (by kernel_rfl)) rfl ⟨rfl, (HBA.out.setCell (p := ⟨_, _, none⟩) (by show w.heap.size ≤ w.heap.size + 1 + 1; omega) _).setCell (p := ⟨_, _, none⟩) (by show w.heap.size ≤ w.heap.size + 1 + 1; omega) _⟩
  · obtain ⟨a0, a3⟩ := ha (by omega)
    obtain ⟨b0, b3⟩ := hbb (by omega)
    obtain ⟨ga, gb⟩ := gcell (x0 := x0) (x1 := x1) (x2 := x2) (x3 := x3) a0 a3
    obtain ⟨ga', gb'⟩ := gcell (x0 := x0) (x1 := x1) (x2 := x2) (x3 := x3) b0 b3
    have oa := hb.g a0 a3
    have ob := hb.g b0 b3
    have hsem : rawG l [x0, x1, x2, x3] = ⟨max (gAt [x0, x1, x2, x3] l.a).lo (gAt [x0, x1, x2, x3] l.b).lo, max (gAt [x0, x1, x2, x3] l.a).hi (gAt [x0, x1, x2, x3] l.b).hi⟩ := by unfold rawG; rw [h7]; rfl
    rw [hsem, h7]
    generalize gAt [x0, x1, x2, x3] l.a = ya at *
    generalize gAt [x0, x1, x2, x3] l.b = yb at *
    have t1 : l.a < 4 := by omega
    have t2 : l.b < 4 := by omega
    clear ha hbb hb hl h7 hw hsem ho
    go_enter Try.func115, Try.ntmps115
    go_wp2_with fail
    go_region_with (go_at_call 138; refine (ivGreatest_any ya yb _).mono ?_; rintro e wa ⟨rfl, hBa⟩; unfold gv; have HBA := Lib.hid ((((((Below.refl _ _).alloc (Nat.le_refl _) _).alloc (by simp) _).alloc (by simp only [World.size_alloc]; omega) _).drew).trans (hBa.mono (by first | omega | (simp; omega)))); have HRA := Lib.hid (hp_below (hp_drew (hp3 w _ _ _)) hBa (by first | omega | (simp; done) | (simp; omega))); have z0 : wa.cell? ⟨w.heap.size + 1 + 1, 0, none⟩ = some (.int .i64 0) := hp_cell HRA.out rfl; have z1 : wa.cell? ⟨w.heap.size + 1 + 1, 1, none⟩ = some (.int .i64 0) := hp_cell HRA.out rfl; have f0 := hp_free HRA.out 0; have f1 := hp_free HRA.out 1; clear hBa)
    all_goals go_wp2_with fail
    all_goals exact bodyPost_ret (results_cell_row (p := 4) (ty := 67) rfl _ _ (w.heap.size + 1 + 1) 67 _ (0, 0) _ (by rfl) (hp_put (hp_put HRA.out 0 _) 1 _) Try.underlying67 rfl (by kernel_rfl)) rfl ⟨rfl, (HBA.out.setCell (p := ⟨_, _, none⟩) (by show w.heap.size ≤ w.heap.size + 1 + 1; omega) _).setCell (p := ⟨_, _, none⟩) (by show w.heap.size ≤ w.heap.size + 1 + 1; omega) _⟩

end Go.Proofs.Ytmpgaccpdglhkaa
