/- joined, has, isEmpty, isWithin, size of boxes: contracts. -/
import Derived.Test.YtmpgaccpdglhkaaSpB
set_option linter.unusedVariables false
set_option linter.unusedSimpArgs false
namespace Go.Proofs.Ytmpgaccpdglhkaa
open Go.RowKit Tinker

set_option maxRecDepth 100000 in
set_option maxHeartbeats 4000000 in
theorem joinHull_any (a b : List Rg) (w : World) (h4 : a.length = 4) (k4 : b.length = 4) :
    Calls Try.prog 81 #[bx a, bx b, .func (.func 82) #[] #[]] w fun e w' => e = .returned (bx (hullB a b)) ∧ Below w.heap.size w w' := by
  obtain ⟨x0, x1, x2, x3, rfl⟩ := rg_list4 h4
  obtain ⟨y0, y1, y2, y3, rfl⟩ := rg_list4 k4
  rw [show hullB [x0, x1, x2, x3] [y0, y1, y2, y3] = [hullG x0 y0, hullG x1 y1, hullG x2 y2, hullG x3 y3] from rfl, bx_4, bx_4, bx_4]
  clear h4 k4
  go_enter Try.func81, Try.ntmps81
  go_wp2_with fail
  go_loopw [10] (fun s10 wr => ∃ k : Nat, k ≤ 4 ∧ s10 = .int .i64 k ∧ wr.heap[w.heap.size]? = some (.cells (gc (([hullG x0 y0, hullG x1 y1, hullG x2 y2, hullG x3 y3] : List Rg).take k ++ ([x0, x1, x2, x3] : List Rg).drop k)).toArray 69 (0, 0)) ∧ wr.heap[w.heap.size + 1 + 1]? = some (.cells #[.int .i64 0, .int .i64 0, .int .i64 0, .int .i64 0, .int .i64 0, .int .i64 0, .int .i64 0, .int .i64 0] 69 (0, 0)) ∧ Below w.heap.size w wr) (fun s10 _ => 4 - (intOf s10).toNat)
  case atStart => exact ⟨0, Nat.zero_le _, rfl, hp_alloc (hp_alloc (hp_new rfl)), hp_new (by simp), ((((Below.refl _ _).alloc (by first | exact Nat.le_refl _ | (simp only [World.size_alloc]; omega)) _).alloc (by first | exact Nat.le_refl _ | (simp only [World.size_alloc]; omega)) _).alloc (by first | exact Nat.le_refl _ | (simp only [World.size_alloc]; omega)) _)⟩
  case round =>
    obtain ⟨k, hk, rfl, hb1, hb0, hB⟩ := hrel
    have HB1 := Lib.hid hb1
    have HB0 := Lib.hid hb0
    have HB := Lib.hid hB
    have hlw := hp_lt hb1
    have hl0 := hp_lt hb0
    clear hb1 hb0 hB
    rcases (show k = 0 ∨ k = 1 ∨ k = 2 ∨ k = 3 ∨ k = 4 by omega) with rfl | rfl | rfl | rfl | rfl
    · rw [show ((0 : Nat) : Int) = 0 from rfl]
      replace HB1 : Hid (wr.heap[w.heap.size]? = some (.cells #[.int .i64 x0.lo, .int .i64 x0.hi, .int .i64 x1.lo, .int .i64 x1.hi, .int .i64 x2.lo, .int .i64 x2.hi, .int .i64 x3.lo, .int .i64 x3.hi] 69 (0, 0))) := Lib.hid HB1.out
      have z0 := hp_cell HB1.out (j := 0) (by rfl)
      have z1 := hp_cell HB1.out (j := 1) (by rfl)
      have ix := fun w => ixB0 y0.lo y0.hi y1.lo y1.hi y2.lo y2.hi y3.lo y3.hi w
      go_wp2_with fail
      clear ix
      go_region_with (go_at_call 82; refine (ivHull_any x0 y0 _).mono ?_; rintro e wa ⟨rfl, hBa⟩; unfold gv; have HBA := Lib.hid (HB.out.alloc HB.out.size _ |>.drew.trans (hBa.mono (by have := HB.out.size; first | omega | (simp; omega)))); have HB1A := Lib.hid (hp_below (hp_drew (hp_alloc HB1.out)) hBa (by first | omega | (simp; omega))); have HB0A := Lib.hid (hp_below (hp_drew (hp_alloc HB0.out)) hBa (by first | omega | (simp; omega))); clear hBa z0 z1; have z0 : wa.cell? ⟨w.heap.size, 0, none⟩ = some (.int .i64 x0.lo) := hp_cell HB1A.out rfl; have z1 : wa.cell? ⟨w.heap.size, 1, none⟩ = some (.int .i64 x0.hi) := hp_cell HB1A.out rfl; have f0 := hp_free HB1A.out 0; have f1 := hp_free HB1A.out 1)
      all_goals go_wp2_with fail
      all_goals go_roundw
      all_goals first | (simp [intOf]; done) | exact ⟨1, by omega, rfl, hp_put (hp_put HB1A.out 0 _) 1 _, hp_set (hp_set HB0A.out (by show w.heap.size + 1 + 1 ≠ w.heap.size; omega) _) (by show w.heap.size + 1 + 1 ≠ w.heap.size; omega) _, (HBA.out.setCell (p := ⟨_, _, none⟩) (Nat.le_refl _) _).setCell (p := ⟨_, _, none⟩) (Nat.le_refl _) _⟩
    · rw [show ((1 : Nat) : Int) = 1 from rfl]
      replace HB1 : Hid (wr.heap[w.heap.size]? = some (.cells #[.int .i64 (hullG x0 y0).lo, .int .i64 (hullG x0 y0).hi, .int .i64 x1.lo, .int .i64 x1.hi, .int .i64 x2.lo, .int .i64 x2.hi, .int .i64 x3.lo, .int .i64 x3.hi] 69 (0, 0))) := Lib.hid HB1.out
      have z0 := hp_cell HB1.out (j := 2) (by rfl)
      have z1 := hp_cell HB1.out (j := 3) (by rfl)
      have ix := fun w => ixB1 y0.lo y0.hi y1.lo y1.hi y2.lo y2.hi y3.lo y3.hi w
      go_wp2_with fail
      clear ix
      go_region_with (go_at_call 82; refine (ivHull_any x1 y1 _).mono ?_; rintro e wa ⟨rfl, hBa⟩; unfold gv; have HBA := Lib.hid (HB.out.alloc HB.out.size _ |>.drew.trans (hBa.mono (by have := HB.out.size; first | omega | (simp; omega)))); have HB1A := Lib.hid (hp_below (hp_drew (hp_alloc HB1.out)) hBa (by first | omega | (simp; omega))); have HB0A := Lib.hid (hp_below (hp_drew (hp_alloc HB0.out)) hBa (by first | omega | (simp; omega))); clear hBa z0 z1; have z0 : wa.cell? ⟨w.heap.size, 2, none⟩ = some (.int .i64 x1.lo) := hp_cell HB1A.out rfl; have z1 : wa.cell? ⟨w.heap.size, 3, none⟩ = some (.int .i64 x1.hi) := hp_cell HB1A.out rfl; have f0 := hp_free HB1A.out 2; have f1 := hp_free HB1A.out 3)
      all_goals go_wp2_with fail
      all_goals go_roundw
      all_goals first | (simp [intOf]; done) | exact ⟨2, by omega, rfl, hp_put (hp_put HB1A.out 2 _) 3 _, hp_set (hp_set HB0A.out (by show w.heap.size + 1 + 1 ≠ w.heap.size; omega) _) (by show w.heap.size + 1 + 1 ≠ w.heap.size; omega) _, (HBA.out.setCell (p := ⟨_, _, none⟩) (Nat.le_refl _) _).setCell (p := ⟨_, _, none⟩) (Nat.le_refl _) _⟩
    · rw [show ((2 : Nat) : Int) = 2 from rfl]
      replace HB1 : Hid (wr.heap[w.heap.size]? = some (.cells #[.int .i64 (hullG x0 y0).lo, .int .i64 (hullG x0 y0).hi, .int .i64 (hullG x1 y1).lo, .int .i64 (hullG x1 y1).hi, .int .i64 x2.lo, .int .i64 x2.hi, .int .i64 x3.lo, .int .i64 x3.hi] 69 (0, 0))) := Lib.hid HB1.out
      have z0 := hp_cell HB1.out (j := 4) (by rfl)
      have z1 := hp_cell HB1.out (j := 5) (by rfl)
      have ix := fun w => ixB2 y0.lo y0.hi y1.lo y1.hi y2.lo y2.hi y3.lo y3.hi w
      go_wp2_with fail
      clear ix
      go_region_with (go_at_call 82; refine (ivHull_any x2 y2 _).mono ?_; rintro e wa ⟨rfl, hBa⟩; unfold gv; have HBA := Lib.hid (HB.out.alloc HB.out.size _ |>.drew.trans (hBa.mono (by have := HB.out.size; first | omega | (simp; omega)))); have HB1A := Lib.hid (hp_below (hp_drew (hp_alloc HB1.out)) hBa (by first | omega | (simp; omega))); have HB0A := Lib.hid (hp_below (hp_drew (hp_alloc HB0.out)) hBa (by first | omega | (simp; omega))); clear hBa z0 z1; have z0 : wa.cell? ⟨w.heap.size, 4, none⟩ = some (.int .i64 x2.lo) := hp_cell HB1A.out rfl; have z1 : wa.cell? ⟨w.heap.size, 5, none⟩ = some (.int .i64 x2.hi) := hp_cell HB1A.out rfl; have f0 := hp_free HB1A.out 4; have f1 := hp_free HB1A.out 5)
      all_goals go_wp2_with fail
      all_goals go_roundw
      all_goals first | (simp [intOf]; done) | exact ⟨3, by omega, rfl, hp_put (hp_put HB1A.out 4 _) 5 _, hp_set (hp_set HB0A.out (by show w.heap.size + 1 + 1 ≠ w.heap.size; omega) _) (by show w.heap.size + 1 + 1 ≠ w.heap.size; omega) _, (HBA.out.setCell (p := ⟨_, _, none⟩) (Nat.le_refl _) _).setCell (p := ⟨_, _, none⟩) (Nat.le_refl _) _⟩
    · rw [show ((3 : Nat) : Int) = 3 from rfl]
      replace HB1 : Hid (wr.heap[w.heap.size]? = some (.cells #[.int .i64 (hullG x0 y0).lo, .int .i64 (hullG x0 y0).hi, .int .i64 (hullG x1 y1).lo, .int .i64 (hullG x1 y1).hi, .int .i64 (hullG x2 y2).lo, .int .i64 (hullG x2 y2).hi, .int .i64 x3.lo, .int .i64 x3.hi] 69 (0, 0))) := Lib.hid HB1.out
      have z0 := hp_cell HB1.out (j := 6) (by rfl)
      have z1 := hp_cell HB1.out (j := 7) (by rfl)
      have ix := fun w => ixB3 y0.lo y0.hi y1.lo y1.hi y2.lo y2.hi y3.lo y3.hi w
      go_wp2_with fail
      clear ix
      go_region_with (go_at_call 82; refine (ivHull_any x3 y3 _).mono ?_; rintro e wa ⟨rfl, hBa⟩; unfold gv; have HBA := Lib.hid (HB.out.alloc HB.out.size _ |>.drew.trans (hBa.mono (by have := HB.out.size; first | omega | (simp; omega)))); have HB1A := Lib.hid (hp_below (hp_drew (hp_alloc HB1.out)) hBa (by first | omega | (simp; omega))); have HB0A := Lib.hid (hp_below (hp_drew (hp_alloc HB0.out)) hBa (by first | omega | (simp; omega))); clear hBa z0 z1; have z0 : wa.cell? ⟨w.heap.size, 6, none⟩ = some (.int .i64 x3.lo) := hp_cell HB1A.out rfl; have z1 : wa.cell? ⟨w.heap.size, 7, none⟩ = some (.int .i64 x3.hi) := hp_cell HB1A.out rfl; have f0 := hp_free HB1A.out 6; have f1 := hp_free HB1A.out 7)
      all_goals go_wp2_with fail
      all_goals go_roundw
      all_goals first | (simp [intOf]; done) | exact ⟨4, by omega, rfl, hp_put (hp_put HB1A.out 6 _) 7 _, hp_set (hp_set HB0A.out (by show w.heap.size + 1 + 1 ≠ w.heap.size; omega) _) (by show w.heap.size + 1 + 1 ≠ w.heap.size; omega) _, (HBA.out.setCell (p := ⟨_, _, none⟩) (Nat.le_refl _) _).setCell (p := ⟨_, _, none⟩) (Nat.le_refl _) _⟩
    · rw [show ((4 : Nat) : Int) = 4 from rfl]
      replace HB1 : Hid (wr.heap[w.heap.size]? = some (.cells #[.int .i64 (hullG x0 y0).lo, .int .i64 (hullG x0 y0).hi, .int .i64 (hullG x1 y1).lo, .int .i64 (hullG x1 y1).hi, .int .i64 (hullG x2 y2).lo, .int .i64 (hullG x2 y2).hi, .int .i64 (hullG x3 y3).lo, .int .i64 (hullG x3 y3).hi] 69 (0, 0))) := Lib.hid HB1.out
      go_wp2_with (first | (refine wpList_load_row rfl 69 (.tmp 3) rfl w.heap.size rfl 69 _ (0, 0) _ HB1.out Try.underlying69 rfl info_box ?_) | (refine wpList_store_row rfl 69 (.tmp 6) (.tmp 23) rfl (w.heap.size + 1 + 1) _ rfl rfl 69 _ HB0.out info_box rfl (one8 _ _ _ _ _ _ _ _) ?_))
      exact bodyPost_ret (results_cell_row (p := 6) (ty := 69) rfl _ _ (w.heap.size + 1 + 1) 69 #[.int .i64 (hullG x0 y0).lo, .int .i64 (hullG x0 y0).hi, .int .i64 (hullG x1 y1).lo, .int .i64 (hullG x1 y1).hi, .int .i64 (hullG x2 y2).lo, .int .i64 (hullG x2 y2).hi, .int .i64 (hullG x3 y3).lo, .int .i64 (hullG x3 y3).hi] (0, 0) _ (by rfl) (hp_row_same HB0.out _) Try.underlying69 rfl info_box) rfl ⟨rfl, below_setRow HB.out (by omega) _⟩

/-- Whether a range of a box is empty. -/
def emTo (b : List Rg) (k : Nat) : Bool := (List.range k).any fun i => decide ((b.getD i rg0).hi < (b.getD i rg0).lo)
theorem emTo_succ {b : List Rg} {k : Nat} : emTo b (k + 1) = (emTo b k || decide ((b.getD k rg0).hi < (b.getD k rg0).lo)) := by
  unfold emTo; rw [List.range_succ, List.any_append]; simp
theorem emTo_yes {b : List Rg} {k m : Nat} (hk : k < m) (h : decide ((b.getD k rg0).hi < (b.getD k rg0).lo) = true) : emTo b m = true := by
  unfold emTo
  rw [List.any_eq_true]
  exact ⟨k, List.mem_range.2 hk, h⟩
theorem emTo_apB (a b : List Rg) : emTo (meetB a b) 4 = apB a b := rfl

set_option maxRecDepth 100000 in
set_option maxHeartbeats 4000000 in
theorem boxSize_any (b : List Rg) (w : World) (hb : OkB b) :
    Calls Try.prog 79 #[bx b] w fun e w' => e = .returned (.int .i64 (szB b)) ∧ Below w.heap.size w w' := by
  have HO := Lib.hid hb
  have HP := Lib.hid (fun k => szTo_bd hb k)
  have h4 := hb.l4
  unfold szB
  obtain ⟨x0, x1, x2, x3, rfl⟩ := rg_list4 h4
  rw [bx_4]
  clear h4 hb
  go_enter Try.func79, Try.ntmps79
  go_wp2_with fail
  go_loopw [7, 3] (fun s7 s3 wr => ∃ k : Nat, k ≤ 4 ∧ s7 = .int .i64 k ∧ s3 = .int .i64 (szTo [x0, x1, x2, x3] k) ∧ Below w.heap.size w wr) (fun s7 _ _ => 4 - (intOf s7).toNat)
  case atStart => exact ⟨0, Nat.zero_le _, rfl, rfl, ((Below.refl _ _).alloc (by first | exact Nat.le_refl _ | (simp only [World.size_alloc]; omega)) _)⟩
  case round =>
    obtain ⟨k, hk, rfl, rfl, hB⟩ := hrel
    have HB := Lib.hid hB
    have HS := hB.size
    rcases (show k = 0 ∨ k = 1 ∨ k = 2 ∨ k = 3 ∨ k = 4 by omega) with rfl | rfl | rfl | rfl | rfl
    · rw [show ((0 : Nat) : Int) = 0 from rfl]
      have ix := fun w => ixB0 x0.lo x0.hi x1.lo x1.hi x2.lo x2.hi x3.lo x3.hi w
      go_wp2_with fail
      refine (ivWidth_any x0 _ (HO.out.at_ (show 0 < 4 by omega))).mono ?_
      rintro e wa ⟨rfl, hBa⟩
      have p := HP.out 0 (by omega)
      have p2 := HP.out 1 (by omega)
      have hS : szTo [x0, x1, x2, x3] 1 = szTo [x0, x1, x2, x3] 0 + (x0.hi - x0.lo) := rfl
      rw [hS] at p2
      have HSS := Lib.hid hS
      obtain ⟨p3, p4⟩ := p2
      obtain ⟨p5, p6⟩ := p
      clear ix hS
      generalize szTo [x0, x1, x2, x3] 0 = Z at *
      go_wp2_with fail
      go_roundw
      case rel => exact ⟨1, by omega, rfl, by rw [HSS.out], (HB.out.alloc HB.out.size _).trans (hBa.mono (by simp only [World.size_alloc]; omega))⟩
      case measure => simp [intOf]
    · rw [show ((1 : Nat) : Int) = 1 from rfl]
      have ix := fun w => ixB1 x0.lo x0.hi x1.lo x1.hi x2.lo x2.hi x3.lo x3.hi w
      go_wp2_with fail
      refine (ivWidth_any x1 _ (HO.out.at_ (show 1 < 4 by omega))).mono ?_
      rintro e wa ⟨rfl, hBa⟩
      have p := HP.out 1 (by omega)
      have p2 := HP.out 2 (by omega)
      have hS : szTo [x0, x1, x2, x3] 2 = szTo [x0, x1, x2, x3] 1 + (x1.hi - x1.lo) := rfl
      rw [hS] at p2
      have HSS := Lib.hid hS
      obtain ⟨p3, p4⟩ := p2
      obtain ⟨p5, p6⟩ := p
      clear ix hS
      generalize szTo [x0, x1, x2, x3] 1 = Z at *
      go_wp2_with fail
      go_roundw
      case rel => exact ⟨2, by omega, rfl, by rw [HSS.out], (HB.out.alloc HB.out.size _).trans (hBa.mono (by simp only [World.size_alloc]; omega))⟩
      case measure => simp [intOf]
    · rw [show ((2 : Nat) : Int) = 2 from rfl]
      have ix := fun w => ixB2 x0.lo x0.hi x1.lo x1.hi x2.lo x2.hi x3.lo x3.hi w
      go_wp2_with fail
      refine (ivWidth_any x2 _ (HO.out.at_ (show 2 < 4 by omega))).mono ?_
      rintro e wa ⟨rfl, hBa⟩
      have p := HP.out 2 (by omega)
      have p2 := HP.out 3 (by omega)
      have hS : szTo [x0, x1, x2, x3] 3 = szTo [x0, x1, x2, x3] 2 + (x2.hi - x2.lo) := rfl
      rw [hS] at p2
      have HSS := Lib.hid hS
      obtain ⟨p3, p4⟩ := p2
      obtain ⟨p5, p6⟩ := p
      clear ix hS
      generalize szTo [x0, x1, x2, x3] 2 = Z at *
      go_wp2_with fail
      go_roundw
      case rel => exact ⟨3, by omega, rfl, by rw [HSS.out], (HB.out.alloc HB.out.size _).trans (hBa.mono (by simp only [World.size_alloc]; omega))⟩
      case measure => simp [intOf]
    · rw [show ((3 : Nat) : Int) = 3 from rfl]
      have ix := fun w => ixB3 x0.lo x0.hi x1.lo x1.hi x2.lo x2.hi x3.lo x3.hi w
      go_wp2_with fail
      refine (ivWidth_any x3 _ (HO.out.at_ (show 3 < 4 by omega))).mono ?_
      rintro e wa ⟨rfl, hBa⟩
      have p := HP.out 3 (by omega)
      have p2 := HP.out 4 (by omega)
      have hS : szTo [x0, x1, x2, x3] 4 = szTo [x0, x1, x2, x3] 3 + (x3.hi - x3.lo) := rfl
      rw [hS] at p2
      have HSS := Lib.hid hS
      obtain ⟨p3, p4⟩ := p2
      obtain ⟨p5, p6⟩ := p
      clear ix hS
      generalize szTo [x0, x1, x2, x3] 3 = Z at *
      go_wp2_with fail
      go_roundw
      case rel => exact ⟨4, by omega, rfl, by rw [HSS.out], (HB.out.alloc HB.out.size _).trans (hBa.mono (by simp only [World.size_alloc]; omega))⟩
      case measure => simp [intOf]
    · rw [show ((4 : Nat) : Int) = 4 from rfl]
      go_wp2_with fail
      go_ret
      exact ⟨rfl, HB.out⟩

end Go.Proofs.Ytmpgaccpdglhkaa
