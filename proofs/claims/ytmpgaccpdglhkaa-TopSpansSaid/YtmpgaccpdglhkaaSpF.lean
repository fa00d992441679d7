/- after of boxes: contract. -/
import Derived.Test.YtmpgaccpdglhkaaSpE
set_option linter.unusedVariables false
set_option linter.unusedSimpArgs false
namespace Go.Proofs.Ytmpgaccpdglhkaa
open Go.RowKit Tinker

set_option maxRecDepth 100000 in
set_option maxHeartbeats 4000000 in
theorem after_any (b : List Rg) (l : L) (w : World) (hb : OkB b) (hl : isLn l = true) :
    Calls Try.prog 88 #[bx b, lv l] w fun e w' => e = .returned (bx (afB l b)) ∧ Below w.heap.size w w' := by
  have h4 := hb.l4
  have HW := Lib.hid (fun w => writes_A l w)
  have HC1 := Lib.hid (fun (h : Tinker.wr l = true) w => written_any b l w hb hl h)
  have HC2 := Lib.hid (fun w => ivCut_any (rawG l b) w)
  have HC3 := Lib.hid (fun (h : Tinker.wr l = true) w => boxWith_any b l.to (cutG (rawG l b)) w h4 (isLn_to hl (by have := isLn_op hl; have := wr_iff.1 h; omega) (by have := isLn_op hl; have := wr_iff.1 h; omega)).1 (isLn_to hl (by have := isLn_op hl; have := wr_iff.1 h; omega) (by have := isLn_op hl; have := wr_iff.1 h; omega)).2)
  unfold wrN wrB vl at HW
  rw [hl] at HW
  cases hw : Tinker.wr l
  · have hs : afB l b = b := by unfold afB; rw [hw]; rfl
    rw [hs]
    rw [hw] at HW
    obtain ⟨x0, x1, x2, x3, rfl⟩ := rg_list4 h4
    rw [bx_4]
    unfold lv at HW ⊢
    clear HC1 HC2 HC3 h4 hb hl hw hs
    go_enter Try.func88, Try.ntmps88
    go_wp2_with fail
    refine (HW.out _).mono ?_
    rintro e w1 ⟨rfl, hB⟩
    have HBb := Lib.hid (hp_below (hp_alloc (hp_alloc (hp_new (w := w) (o := .cells #[.int .i64 x0.lo, .int .i64 x0.hi, .int .i64 x1.lo, .int .i64 x1.hi, .int .i64 x2.lo, .int .i64 x2.hi, .int .i64 x3.lo, .int .i64 x3.hi] 69 (0, 0)) rfl))) hB (by simp only [World.size_alloc]; omega))
    have HRb := Lib.hid (hp_below (hp3 w _ _ _) hB (by simp only [World.size_alloc]; omega))
    have HBW := Lib.hid ((((Below.refl w.heap.size w).alloc (Nat.le_refl _) _).alloc (by simp) _).alloc (by simp only [World.size_alloc]; omega) _ |>.trans (hB.mono (by simp only [World.size_alloc]; omega)))
    clear hB
    go_wp2_with (first | (refine wpList_load_row rfl 69 (.tmp 2) rfl w.heap.size rfl 69 _ (0, 0) _ HBb.out Try.underlying69 rfl info_box ?_) | (refine wpList_store_row rfl 69 (.tmp 4) (.tmp 16) rfl (w.heap.size + 1 + 1) _ rfl rfl 69 _ HRb.out info_box rfl (one8 _ _ _ _ _ _ _ _) ?_))
    exact bodyPost_ret (results_cell_row (p := 4) (ty := 69) rfl _ _ (w.heap.size + 1 + 1) 69 #[.int .i64 x0.lo, .int .i64 x0.hi, .int .i64 x1.lo, .int .i64 x1.hi, .int .i64 x2.lo, .int .i64 x2.hi, .int .i64 x3.lo, .int .i64 x3.hi] (0, 0) _ (by rfl) (hp_row_same HRb.out _) Try.underlying69 rfl info_box) rfl ⟨rfl, below_setRow HBW.out (by omega) _⟩
  · have hs : afB l b = b.set l.to.toNat (cutG (rawG l b)) := by unfold afB; rw [if_pos hw]
    rw [hs]
    rw [hw] at HW
    replace HC1 := Lib.hid (HC1.out hw)
    replace HC3 := Lib.hid (HC3.out hw)
    have hlen : (b.set l.to.toNat (cutG (rawG l b))).length = 4 := by simpa using h4
    generalize b.set l.to.toNat (cutG (rawG l b)) = b' at *
    generalize cutG (rawG l b) = g2 at *
    generalize rawG l b = g1 at *
    obtain ⟨x0, x1, x2, x3, rfl⟩ := rg_list4 h4
    obtain ⟨y0, y1, y2, y3, rfl⟩ := rg_list4 hlen
    rw [bx_4] at HC1 HC3
    rw [bx_4]
    rw [bx_4] at HC3 ⊢
    unfold lv at HC1 HW ⊢
    unfold gv at HC1 HC2 HC3
    clear h4 hb hl hw hs hlen
    go_enter Try.func88, Try.ntmps88
    go_wp2_with fail
    refine (HW.out _).mono ?_
    rintro e w1 ⟨rfl, hB⟩
    have HBb := Lib.hid (hp_below (hp_alloc (hp_alloc (hp_new (w := w) (o := .cells #[.int .i64 x0.lo, .int .i64 x0.hi, .int .i64 x1.lo, .int .i64 x1.hi, .int .i64 x2.lo, .int .i64 x2.hi, .int .i64 x3.lo, .int .i64 x3.hi] 69 (0, 0)) rfl))) hB (by simp only [World.size_alloc]; omega))
    have HLb := Lib.hid (hp_below (hp_alloc (hp_new (w := w.alloc _) (o := .cells #[.int .i64 l.op, .int .i64 l.to, .int .i64 l.a, .int .i64 l.b] 50 (0, 0)) rfl)) hB (by simp only [World.size_alloc]; omega))
    have HRb := Lib.hid (hp_below (hp3 w _ _ _) hB (by simp only [World.size_alloc]; omega))
    have HBW := Lib.hid ((((Below.refl w.heap.size w).alloc (Nat.le_refl _) _).alloc (by simp) _).alloc (by simp only [World.size_alloc]; omega) _ |>.trans (hB.mono (by simp only [World.size_alloc]; omega)))
    have HRg := Lib.hid (show w.heap.size ≤ w.heap.size + 1 + 1 by omega)
    clear hB
    rw [show (w.alloc (.cells #[.int .i64 x0.lo, .int .i64 x0.hi, .int .i64 x1.lo, .int .i64 x1.hi, .int .i64 x2.lo, .int .i64 x2.hi, .int .i64 x3.lo, .int .i64 x3.hi] 69 (0, 0))).heap.size = w.heap.size + 1 by simp] at HLb
    have HNE := Lib.hid (show w.heap.size ≠ w.heap.size + 1 + 1 ∧ w.heap.size + 1 ≠ w.heap.size + 1 + 1 by omega)
    have HBl := Lib.hid (hp_lt HBb.out)
    have HLl := Lib.hid (hp_lt HLb.out)
    have HRl := Lib.hid (hp_lt HRb.out)
    go_wp2_with fail
    generalize w.heap.size + 1 + 1 = R at *
    generalize w.heap.size + 1 = C at *
    obtain ⟨B, hBB⟩ : ∃ B, B = w.heap.size := ⟨_, rfl⟩
    rw [← hBB] at HBb HBl HNE ⊢
    clear hBB
    refine wp_region_held_drew (S := (fun W => W.heap[B]? = some (.cells #[.int .i64 x0.lo, .int .i64 x0.hi, .int .i64 x1.lo, .int .i64 x1.hi, .int .i64 x2.lo, .int .i64 x2.hi, .int .i64 x3.lo, .int .i64 x3.hi] 69 (0, 0)) ∧ W.heap[C]? = some (.cells #[.int .i64 l.op, .int .i64 l.to, .int .i64 l.a, .int .i64 l.b] 50 (0, 0)))) (by kernel_rfl) ?_ (fun hHeld => ?_)
    · exact ⟨hp_drew HBb.out, hp_drew HLb.out⟩
    refine wpAnyH_take (i := 0) (oi := ?oiq1) (v := (.agg #[.int .i64 x0.lo, .int .i64 x0.hi, .int .i64 x1.lo, .int .i64 x1.hi, .int .i64 x2.lo, .int .i64 x2.hi, .int .i64 x3.lo, .int .i64 x3.hi])) ?hiq1 (by kernel_rfl) (by kernel_rfl) (by kernel_rfl) ?hqq1 ?hyq1 hHeld ?restq1
    case hiq1 => exact rfl
    case hqq1 => exact fun _ _ _ h => h
    case hyq1 =>
      refine Or.inl ⟨by rfl, ?_⟩
      intro w hSw
      have z0 : w.cell? ⟨B, 0, none⟩ = some (.int .i64 x0.lo) := hp_cell hSw.1 (by rfl)
      have z1 : w.cell? ⟨B, 1, none⟩ = some (.int .i64 x0.hi) := hp_cell hSw.1 (by rfl)
      have z2 : w.cell? ⟨B, 2, none⟩ = some (.int .i64 x1.lo) := hp_cell hSw.1 (by rfl)
      have z3 : w.cell? ⟨B, 3, none⟩ = some (.int .i64 x1.hi) := hp_cell hSw.1 (by rfl)
      have z4 : w.cell? ⟨B, 4, none⟩ = some (.int .i64 x2.lo) := hp_cell hSw.1 (by rfl)
      have z5 : w.cell? ⟨B, 5, none⟩ = some (.int .i64 x2.hi) := hp_cell hSw.1 (by rfl)
      have z6 : w.cell? ⟨B, 6, none⟩ = some (.int .i64 x3.lo) := hp_cell hSw.1 (by rfl)
      have z7 : w.cell? ⟨B, 7, none⟩ = some (.int .i64 x3.hi) := hp_cell hSw.1 (by rfl)
      go_simp
      (try with_reducible rfl)
    try simp only [Act.put, List.getElem_toArray, List.getElem_cons_succ, List.getElem_cons_zero, List.setIfInBounds_toArray, List.set_cons_zero, List.set_cons_succ]
    refine wpAnyH_take (i := 1) (oi := ?oiq2) (v := ?vq2) ?hiq2 (by kernel_rfl) (by kernel_rfl) (by kernel_rfl) ?hqq2 ?hyq2 hHeld ?restq2
    case hiq2 => exact rfl
    case hqq2 => exact fun _ _ _ h => h
    case hyq2 =>
      refine Or.inl ⟨by rfl, ?_⟩
      intro w hSw
      go_simp
      (try with_reducible rfl)
    try simp only [Act.put, List.getElem_toArray, List.getElem_cons_succ, List.getElem_cons_zero, List.setIfInBounds_toArray, List.set_cons_zero, List.set_cons_succ]
    refine wpAnyH_take (i := 2) (oi := ?oiq3) (v := (.agg #[.int .i64 x0.lo, .int .i64 x0.hi, .int .i64 x1.lo, .int .i64 x1.hi, .int .i64 x2.lo, .int .i64 x2.hi, .int .i64 x3.lo, .int .i64 x3.hi])) ?hiq3 (by kernel_rfl) (by kernel_rfl) (by kernel_rfl) ?hqq3 ?hyq3 hHeld ?restq3
    case hiq3 => exact rfl
    case hqq3 => exact fun _ _ _ h => h
    case hyq3 =>
      refine Or.inl ⟨by rfl, ?_⟩
      intro w hSw
      have z0 : w.cell? ⟨B, 0, none⟩ = some (.int .i64 x0.lo) := hp_cell hSw.1 (by rfl)
      have z1 : w.cell? ⟨B, 1, none⟩ = some (.int .i64 x0.hi) := hp_cell hSw.1 (by rfl)
      have z2 : w.cell? ⟨B, 2, none⟩ = some (.int .i64 x1.lo) := hp_cell hSw.1 (by rfl)
      have z3 : w.cell? ⟨B, 3, none⟩ = some (.int .i64 x1.hi) := hp_cell hSw.1 (by rfl)
      have z4 : w.cell? ⟨B, 4, none⟩ = some (.int .i64 x2.lo) := hp_cell hSw.1 (by rfl)
      have z5 : w.cell? ⟨B, 5, none⟩ = some (.int .i64 x2.hi) := hp_cell hSw.1 (by rfl)
      have z6 : w.cell? ⟨B, 6, none⟩ = some (.int .i64 x3.lo) := hp_cell hSw.1 (by rfl)
      have z7 : w.cell? ⟨B, 7, none⟩ = some (.int .i64 x3.hi) := hp_cell hSw.1 (by rfl)
      go_simp
      (try with_reducible rfl)
    try simp only [Act.put, List.getElem_toArray, List.getElem_cons_succ, List.getElem_cons_zero, List.setIfInBounds_toArray, List.set_cons_zero, List.set_cons_succ]
    refine wpAnyH_take (i := 3) (oi := ?oiq4) (v := (.agg #[.int .i64 l.op, .int .i64 l.to, .int .i64 l.a, .int .i64 l.b])) ?hiq4 (by kernel_rfl) (by kernel_rfl) (by kernel_rfl) ?hqq4 ?hyq4 hHeld ?restq4
    case hiq4 => exact rfl
    case hqq4 => exact fun _ _ _ h => h
    case hyq4 =>
      refine Or.inl ⟨by rfl, ?_⟩
      intro w hSw
      have z0 : w.cell? ⟨C, 0, none⟩ = some (.int .i64 l.op) := hp_cell hSw.2 (by rfl)
      have z1 : w.cell? ⟨C, 1, none⟩ = some (.int .i64 l.to) := hp_cell hSw.2 (by rfl)
      have z2 : w.cell? ⟨C, 2, none⟩ = some (.int .i64 l.a) := hp_cell hSw.2 (by rfl)
      have z3 : w.cell? ⟨C, 3, none⟩ = some (.int .i64 l.b) := hp_cell hSw.2 (by rfl)
      go_simp
      (try with_reducible rfl)
    try simp only [Act.put, List.getElem_toArray, List.getElem_cons_succ, List.getElem_cons_zero, List.setIfInBounds_toArray, List.set_cons_zero, List.set_cons_succ]
    refine wpAnyH_ready (rs := [4]) (by kernel_rfl) (by simp) ?_
    refine AllReadyH.cons (o := ?or8_4) ?hr8_4 ?kr8_4 AllReadyH.nil
    case hr8_4 => exact rfl
    case kr8_4 =>
      intro K hK
      go_simp
      refine (HC1.out _).mono ?_
      rintro e wa1 ⟨rfl, hBa⟩
      have HA1 := Lib.hid ((Below.refl _ _).drew.trans (hBa.mono (Nat.le_refl _)))
      clear hBa
      refine hK.out _ _ ⟨hp_below HBb.out HA1.out HBl.out, hp_below HLb.out HA1.out HLl.out⟩ (fun hHeld => ?_)
      clear hK K
      try simp only [Act.put, List.getElem_toArray, List.getElem_cons_succ, List.getElem_cons_zero, List.setIfInBounds_toArray, List.set_cons_zero, List.set_cons_succ]
      refine wpAnyH_ready (rs := [5]) (by kernel_rfl) (by simp) ?_
      refine AllReadyH.cons (o := ?or7_5) ?hr7_5 ?kr7_5 AllReadyH.nil
      case hr7_5 => exact rfl
      case kr7_5 =>
        intro K hK
        go_simp
        refine (HC2.out _).mono ?_
        rintro e wa2 ⟨rfl, hBa⟩
        have HA2 := Lib.hid (HA1.out.trans (hBa.mono HA1.out.size))
        clear hBa
        refine hK.out _ _ ⟨hp_below HBb.out HA2.out HBl.out, hp_below HLb.out HA2.out HLl.out⟩ (fun hHeld => ?_)
        clear hK K
        try simp only [Act.put, List.getElem_toArray, List.getElem_cons_succ, List.getElem_cons_zero, List.setIfInBounds_toArray, List.set_cons_zero, List.set_cons_succ]
        refine wpAnyH_ready (rs := [6]) (by kernel_rfl) (by simp) ?_
        refine AllReadyH.cons (o := ?or6_6) ?hr6_6 ?kr6_6 AllReadyH.nil
        case hr6_6 => exact rfl
        case kr6_6 =>
          intro K hK
          go_simp
          refine (HC3.out _).mono ?_
          rintro e wa3 ⟨rfl, hBa⟩
          have HA3 := Lib.hid (HA2.out.trans (hBa.mono HA2.out.size))
          clear hBa
          refine hK.out _ _ ⟨hp_below HBb.out HA3.out HBl.out, hp_below HLb.out HA3.out HLl.out⟩ (fun hHeld => ?_)
          clear hK K
          try simp only [Act.put, List.getElem_toArray, List.getElem_cons_succ, List.getElem_cons_zero, List.setIfInBounds_toArray, List.set_cons_zero, List.set_cons_succ]
          refine wpAnyH_ready (rs := [7]) (by kernel_rfl) (by simp) ?_
          refine AllReadyH.cons (o := ?or5_7) ?hr5_7 ?kr5_7 AllReadyH.nil
          case hr5_7 => exact rfl
          case kr5_7 =>
            intro K hK
            have HR4 := Lib.hid (hp_below HRb.out HA3.out HRl.out)
            refine wp_store_row 69 (.tmp 4) (.tmp 23) rfl R _ rfl rfl 69 _ HR4.out info_box rfl (one8 _ _ _ _ _ _ _ _) ?_
            refine hK.out _ _ ⟨hp_row (hp_below HBb.out HA3.out HBl.out) HNE.out.1 _, hp_row (hp_below HLb.out HA3.out HLl.out) HNE.out.2 _⟩ (fun hHeld => ?_)
            clear hK K
            try simp only [Act.put, List.getElem_toArray, List.getElem_cons_succ, List.getElem_cons_zero, List.setIfInBounds_toArray, List.set_cons_zero, List.set_cons_succ]
            refine wpAnyH_done (by kernel_rfl) ?_ _
            clear hHeld
            go_wp2_with fail
            exact bodyPost_ret (results_cell_row (p := 4) (ty := 69) rfl _ _ R 69 _ (0, 0) _ (by rfl) (hp_row_same HR4.out _) Try.underlying69 rfl info_box) rfl ⟨rfl, below_setRow (HBW.out.trans (HA3.out.mono HBW.out.size)) HRg.out _⟩

end Go.Proofs.Ytmpgaccpdglhkaa
