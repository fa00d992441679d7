/- written of the document: contract. -/
import Derived.Test.YtmpgaccpdglhkaaGreatSrW
import Derived.Test.YtmpgaccpdglhkaaGreatSpE
import Derived.Test.YtmpgaccpdglhkaaGreatRefB
set_option linter.unusedVariables false
set_option linter.unusedSimpArgs false
namespace Go.Proofs.YtmpgaccpdglhkaaGreat
open Go.RowKit Tinker


set_option maxRecDepth 100000 in
set_option maxHeartbeats 8000000 in
theorem rwritten5y (a : Option Addr) (ca : Nat) (b : List Rg) (l : L) (w : World) (hr : RangesAt w a b) (hb : OkB b) (hl : isLn l = true) (hw : Tinker.wr l = true) (h7 : l.op = 5) (h8 : (gAt b l.b).lo < (gAt b l.a).lo) :
    Calls Tryz.prog 73 #[lv l, .slice a b.length ca] w fun e w' => e = .returned (gv (cutG (rawG l b))) ∧ Below w.heap.size w w' := by
  have ha := isLn_a hl
  have hbb := isLn_b hl
  have ho := isLn_op hl
  have hw := wr_iff.1 hw
  have h4 := hb.l4
  unfold lv
  obtain ⟨a0, a3⟩ := ha (by omega)
  obtain ⟨b0, b3⟩ := hbb (by omega)
  obtain ⟨xa, hxa⟩ := get_of_lt (show l.a.toNat < b.length by rw [h4]; omega)
  obtain ⟨xb, hxb⟩ := get_of_lt (show l.b.toNat < b.length by rw [h4]; omega)
  have oa := hb.g a0 a3
  have ob := hb.g b0 b3
  have eA : gAt b l.a = xa := getD_of_get hxa
  have eB : gAt b l.b = xb := getD_of_get hxb
  rw [eA] at oa
  rw [eB] at ob
  obtain ⟨⟨_, _⟩, ⟨_, _⟩, _⟩ := okG_iff.1 oa
  obtain ⟨⟨_, _⟩, ⟨_, _⟩, _⟩ := okG_iff.1 ob
  obtain ⟨g, off, ya, rfl, hg, hya, p0, p1⟩ := hr.at_ (show l.a.toNat < b.length by rw [h4]; omega)
  rw [hxa] at hya
  injection hya with hya
  subst hya
  obtain ⟨g', off', yb, hgg, _, hyb, q0, q1⟩ := hr.at_ (show l.b.toNat < b.length by rw [h4]; omega)
  injection hgg with hgg
  injection hgg with e1 e2
  subst e1 e2
  rw [hxb] at hyb
  injection hyb with hyb
  subst hyb
  have F0 := Lib.hid (fun o1 o2 => cell_alloc_keep (o := o2) (cell_alloc_keep (o := o1) p0))
  have F1 := Lib.hid (fun o1 o2 => cell_alloc_keep (o := o2) (cell_alloc_keep (o := o1) p1))
  have F2 := Lib.hid (fun o1 o2 => cell_alloc_keep (o := o2) (cell_alloc_keep (o := o1) q0))
  have F3 := Lib.hid (fun o1 o2 => cell_alloc_keep (o := o2) (cell_alloc_keep (o := o1) q1))
  have t1 : l.a < 4 := by omega
  have t2 : l.b < 4 := by omega
  have u1 : l.a.toNat < 4 := by omega
  have u2 : l.b.toNat < 4 := by omega
  have m1 : xb.lo < xa.lo := by rw [eA, eB] at h8; exact h8
  clear h8
  by_cases m2 : xb.hi < xa.hi
  · have hsem : rawG l b = ⟨min xa.lo xb.lo, min xa.hi xb.hi⟩ := by unfold rawG; rw [h7, eA, eB]; rfl
    rw [show min xa.lo xb.lo = xb.lo by omega, show min xa.hi xb.hi = xb.hi by omega] at hsem
    have d1 : decide (xb.lo < xa.lo) = true := decide_eq_true m1
    have d2 : decide (xb.hi < xa.hi) = true := decide_eq_true m2
    rw [hsem, h4]
    rw [h7]
    clear hsem eA eB hxa hxb oa ob p0 p1 q0 q1 hr hb ha hbb ho hw h4 h7 hl 
    go_enter Tryz.func73, Tryz.ntmps73
    go_wp2_with fail
    have f0 := fun o2 => F0.out (.cells #[.int .i64 5, .int .i64 l.to, .int .i64 l.a, .int .i64 l.b] 42) o2
    have g0 := fun o2 o3 => cell_alloc_keep (o := o3) (f0 o2)
    have k0 := fun o2 o3 o4 => cell_alloc_keep (o := o4) (g0 o2 o3)
    have f1 := fun o2 => F1.out (.cells #[.int .i64 5, .int .i64 l.to, .int .i64 l.a, .int .i64 l.b] 42) o2
    have g1 := fun o2 o3 => cell_alloc_keep (o := o3) (f1 o2)
    have k1 := fun o2 o3 o4 => cell_alloc_keep (o := o4) (g1 o2 o3)
    have f2 := fun o2 => F2.out (.cells #[.int .i64 5, .int .i64 l.to, .int .i64 l.a, .int .i64 l.b] 42) o2
    have g2 := fun o2 o3 => cell_alloc_keep (o := o3) (f2 o2)
    have k2 := fun o2 o3 o4 => cell_alloc_keep (o := o4) (g2 o2 o3)
    have f3 := fun o2 => F3.out (.cells #[.int .i64 5, .int .i64 l.to, .int .i64 l.a, .int .i64 l.b] 42) o2
    have g3 := fun o2 o3 => cell_alloc_keep (o := o3) (f3 o2)
    have k3 := fun o2 o3 o4 => cell_alloc_keep (o := o4) (g3 o2 o3)
    go_region
    all_goals clear f0 g0 k0 f1 g1 k1 f2 g2 k2 f3 g3 k3 F0 F1 F2 F3
    all_goals go_wp2_with fail
    · have HH : Hid ((fun W => W.heap[w.heap.size + 1]? = some (.cells #[.int .i64 0, .int .i64 0] 37 (0, 0)) ∧ W.heap[w.heap.size + 1 + 1]? = some (.cells #[.int .i64 xb.lo, .int .i64 xb.hi] 37 (0, 0)) ∧ Below w.heap.size w W) (((((w.alloc (.cells #[.int .i64 5, .int .i64 l.to, .int .i64 l.a, .int .i64 l.b] 42)).alloc (.cells #[.int .i64 0, .int .i64 0] 37)).alloc (.cells #[.int .i64 xb.lo, .int .i64 xb.hi] 37)).alloc (.cells #[.int .i64 xb.lo, .int .i64 xb.hi] 37)).drew.drew)) := Lib.hid ⟨hp_drew (hp_drew (hp_alloc (hp_alloc (hp_new (by simp))))), hp_drew (hp_drew (hp_alloc (hp_new (by simp)))), Below.drew (Below.drew (((((Below.refl w.heap.size w).alloc (Nat.le_refl _) _).alloc (by simp) _).alloc (by simp only [World.size_alloc]; omega) _).alloc (by simp only [World.size_alloc]; omega) _))⟩
      refine wp_region_held_drew (S := (fun W => W.heap[w.heap.size + 1 + 1]? = some (.cells #[.int .i64 xb.lo, .int .i64 xb.hi] 37 (0, 0)))) (by kernel_rfl) ?_ (fun hHeld => ?_)
      · exact HH.out.2.1
      generalize World.drew (World.drew _) = Wd at *
      refine wpAnyH_take (i := 0) (oi := ?oiq49) (v := ?vq49) ?hiq49 (by kernel_rfl) (by kernel_rfl) (by kernel_rfl) ?hqq49 ?hyq49 hHeld ?restq49
      case hiq49 => exact rfl
      case hqq49 => exact fun _ _ _ h => h
      case hyq49 =>
        refine Or.inl ⟨by rfl, ?_⟩
        intro w hSw
        go_simp
        (try with_reducible rfl)
      try simp only [Act.put, List.getElem_toArray, List.getElem_cons_succ, List.getElem_cons_zero, List.setIfInBounds_toArray, List.set_cons_zero, List.set_cons_succ]
      refine wpAnyH_take (i := 1) (oi := ?oiq50) (v := (.int .i64 xb.lo)) ?hiq50 (by kernel_rfl) (by kernel_rfl) (by kernel_rfl) ?hqq50 ?hyq50 hHeld ?restq50
      case hiq50 => exact rfl
      case hqq50 => exact fun _ _ _ h => h
      case hyq50 =>
        refine Or.inl ⟨by rfl, ?_⟩
        intro w hSw
        have z := hp_cell hSw (j := 0) (by rfl)
        go_simp
        (try with_reducible rfl)
      try simp only [Act.put, List.getElem_toArray, List.getElem_cons_succ, List.getElem_cons_zero, List.setIfInBounds_toArray, List.set_cons_zero, List.set_cons_succ]
      refine wpAnyH_take (i := 3) (oi := ?oiq51) (v := ?vq51) ?hiq51 (by kernel_rfl) (by kernel_rfl) (by kernel_rfl) ?hqq51 ?hyq51 hHeld ?restq51
      case hiq51 => exact rfl
      case hqq51 => exact fun _ _ _ h => h
      case hyq51 =>
        refine Or.inl ⟨by rfl, ?_⟩
        intro w hSw
        go_simp
        (try with_reducible rfl)
      try simp only [Act.put, List.getElem_toArray, List.getElem_cons_succ, List.getElem_cons_zero, List.setIfInBounds_toArray, List.set_cons_zero, List.set_cons_succ]
      refine wpAnyH_take (i := 4) (oi := ?oiq52) (v := (.int .i64 xb.hi)) ?hiq52 (by kernel_rfl) (by kernel_rfl) (by kernel_rfl) ?hqq52 ?hyq52 hHeld ?restq52
      case hiq52 => exact rfl
      case hqq52 => exact fun _ _ _ h => h
      case hyq52 =>
        refine Or.inl ⟨by rfl, ?_⟩
        intro w hSw
        have z := hp_cell hSw (j := 1) (by rfl)
        go_simp
        (try with_reducible rfl)
      try simp only [Act.put, List.getElem_toArray, List.getElem_cons_succ, List.getElem_cons_zero, List.setIfInBounds_toArray, List.set_cons_zero, List.set_cons_succ]
      refine wpAnyH_ready (rs := [2]) (by kernel_rfl) (by simp) ?_
      refine AllReadyH.cons (o := ?or56_2) ?hr56_2 ?kr56_2 AllReadyH.nil
      case hr56_2 => exact rfl
      case kr56_2 =>
        intro K hK
        go_simp
        refine (rCut_any _ _).mono ?_
        rintro e w9 ⟨rfl, rfl⟩
        refine hK.out _ _ HH.out.2.1 (fun hHeld => ?_)
        clear hK K
        try simp only [Act.put, List.getElem_toArray, List.getElem_cons_succ, List.getElem_cons_zero, List.setIfInBounds_toArray, List.set_cons_zero, List.set_cons_succ]
        refine wpAnyH_ready (rs := [5]) (by kernel_rfl) (by simp) ?_
        refine AllReadyH.cons (o := ?or55_5) ?hr55_5 ?kr55_5 AllReadyH.nil
        case hr55_5 => exact rfl
        case kr55_5 =>
          intro K hK
          go_simp
          refine (rCut_any _ _).mono ?_
          rintro e w9 ⟨rfl, rfl⟩
          refine hK.out _ _ HH.out.2.1 (fun hHeld => ?_)
          clear hK K
          try simp only [Act.put, List.getElem_toArray, List.getElem_cons_succ, List.getElem_cons_zero, List.setIfInBounds_toArray, List.set_cons_zero, List.set_cons_succ]
          refine wpAnyH_take (i := 6) (oi := ?oiq53) (v := ?vq53) ?hiq53 (by kernel_rfl) (by kernel_rfl) (by kernel_rfl) ?hqq53 ?hyq53 hHeld ?restq53
          case hiq53 => exact rfl
          case hqq53 => exact fun _ _ _ h => h
          case hyq53 =>
            refine Or.inl ⟨by rfl, ?_⟩
            intro w hSw
            go_simp
            (try with_reducible rfl)
          try simp only [Act.put, List.getElem_toArray, List.getElem_cons_succ, List.getElem_cons_zero, List.setIfInBounds_toArray, List.set_cons_zero, List.set_cons_succ]
          refine wpAnyH_ready (rs := [7]) (by kernel_rfl) (by simp) ?_
          refine AllReadyH.cons (o := ?or54_7) ?hr54_7 ?kr54_7 AllReadyH.nil
          case hr54_7 => exact rfl
          case kr54_7 =>
            intro K hK
            refine wp_store_row 37 (.tmp 4) (.tmp 85) rfl (w.heap.size + 1) _ rfl rfl 37 _ HH.out.1 (by kernel_rfl) rfl (two1 _ _) ?_
            refine hK.out _ _ (hp_row HH.out.2.1 (by omega) _) (fun hHeld => ?_)
            clear hK K
            try simp only [Act.put, List.getElem_toArray, List.getElem_cons_succ, List.getElem_cons_zero, List.setIfInBounds_toArray, List.set_cons_zero, List.set_cons_succ]
            refine wpAnyH_done (by kernel_rfl) ?_ _
            clear hHeld
            go_wp2_with fail
            exact bodyPost_ret (results_cell_row (p := 4) (ty := 37) rfl _ _ (w.heap.size + 1) 37 _ (0, 0) _ (by rfl) (hp_row_same HH.out.1 _) Tryz.underlying37 rfl (by kernel_rfl)) rfl ⟨rfl, below_setRow HH.out.2.2 (by omega) _⟩
    · have HH : Hid ((fun W => W.heap[w.heap.size + 1]? = some (.cells #[.int .i64 0, .int .i64 0] 37 (0, 0)) ∧ W.heap[w.heap.size + 1 + 1 + 1]? = some (.cells #[.int .i64 xb.lo, .int .i64 xb.hi] 37 (0, 0)) ∧ Below w.heap.size w W) (((((w.alloc (.cells #[.int .i64 5, .int .i64 l.to, .int .i64 l.a, .int .i64 l.b] 42)).alloc (.cells #[.int .i64 0, .int .i64 0] 37)).alloc (.cells #[.int .i64 xb.lo, .int .i64 xb.hi] 37)).alloc (.cells #[.int .i64 xb.lo, .int .i64 xb.hi] 37)).drew.drew)) := Lib.hid ⟨hp_drew (hp_drew (hp_alloc (hp_alloc (hp_new (by simp))))), hp_drew (hp_drew (hp_new (by simp))), Below.drew (Below.drew (((((Below.refl w.heap.size w).alloc (Nat.le_refl _) _).alloc (by simp) _).alloc (by simp only [World.size_alloc]; omega) _).alloc (by simp only [World.size_alloc]; omega) _))⟩
      refine wp_region_held_drew (S := (fun W => W.heap[w.heap.size + 1 + 1 + 1]? = some (.cells #[.int .i64 xb.lo, .int .i64 xb.hi] 37 (0, 0)))) (by kernel_rfl) ?_ (fun hHeld => ?_)
      · exact HH.out.2.1
      generalize World.drew (World.drew _) = Wd at *
      refine wpAnyH_take (i := 0) (oi := ?oiq57) (v := ?vq57) ?hiq57 (by kernel_rfl) (by kernel_rfl) (by kernel_rfl) ?hqq57 ?hyq57 hHeld ?restq57
      case hiq57 => exact rfl
      case hqq57 => exact fun _ _ _ h => h
      case hyq57 =>
        refine Or.inl ⟨by rfl, ?_⟩
        intro w hSw
        go_simp
        (try with_reducible rfl)
      try simp only [Act.put, List.getElem_toArray, List.getElem_cons_succ, List.getElem_cons_zero, List.setIfInBounds_toArray, List.set_cons_zero, List.set_cons_succ]
      refine wpAnyH_take (i := 1) (oi := ?oiq58) (v := (.int .i64 xb.lo)) ?hiq58 (by kernel_rfl) (by kernel_rfl) (by kernel_rfl) ?hqq58 ?hyq58 hHeld ?restq58
      case hiq58 => exact rfl
      case hqq58 => exact fun _ _ _ h => h
      case hyq58 =>
        refine Or.inl ⟨by rfl, ?_⟩
        intro w hSw
        have z := hp_cell hSw (j := 0) (by rfl)
        go_simp
        (try with_reducible rfl)
      try simp only [Act.put, List.getElem_toArray, List.getElem_cons_succ, List.getElem_cons_zero, List.setIfInBounds_toArray, List.set_cons_zero, List.set_cons_succ]
      refine wpAnyH_take (i := 3) (oi := ?oiq59) (v := ?vq59) ?hiq59 (by kernel_rfl) (by kernel_rfl) (by kernel_rfl) ?hqq59 ?hyq59 hHeld ?restq59
      case hiq59 => exact rfl
      case hqq59 => exact fun _ _ _ h => h
      case hyq59 =>
        refine Or.inl ⟨by rfl, ?_⟩
        intro w hSw
        go_simp
        (try with_reducible rfl)
      try simp only [Act.put, List.getElem_toArray, List.getElem_cons_succ, List.getElem_cons_zero, List.setIfInBounds_toArray, List.set_cons_zero, List.set_cons_succ]
      refine wpAnyH_take (i := 4) (oi := ?oiq60) (v := (.int .i64 xb.hi)) ?hiq60 (by kernel_rfl) (by kernel_rfl) (by kernel_rfl) ?hqq60 ?hyq60 hHeld ?restq60
      case hiq60 => exact rfl
      case hqq60 => exact fun _ _ _ h => h
      case hyq60 =>
        refine Or.inl ⟨by rfl, ?_⟩
        intro w hSw
        have z := hp_cell hSw (j := 1) (by rfl)
        go_simp
        (try with_reducible rfl)
      try simp only [Act.put, List.getElem_toArray, List.getElem_cons_succ, List.getElem_cons_zero, List.setIfInBounds_toArray, List.set_cons_zero, List.set_cons_succ]
      refine wpAnyH_ready (rs := [2]) (by kernel_rfl) (by simp) ?_
      refine AllReadyH.cons (o := ?or64_2) ?hr64_2 ?kr64_2 AllReadyH.nil
      case hr64_2 => exact rfl
      case kr64_2 =>
        intro K hK
        go_simp
        refine (rCut_any _ _).mono ?_
        rintro e w9 ⟨rfl, rfl⟩
        refine hK.out _ _ HH.out.2.1 (fun hHeld => ?_)
        clear hK K
        try simp only [Act.put, List.getElem_toArray, List.getElem_cons_succ, List.getElem_cons_zero, List.setIfInBounds_toArray, List.set_cons_zero, List.set_cons_succ]
        refine wpAnyH_ready (rs := [5]) (by kernel_rfl) (by simp) ?_
        refine AllReadyH.cons (o := ?or63_5) ?hr63_5 ?kr63_5 AllReadyH.nil
        case hr63_5 => exact rfl
        case kr63_5 =>
          intro K hK
          go_simp
          refine (rCut_any _ _).mono ?_
          rintro e w9 ⟨rfl, rfl⟩
          refine hK.out _ _ HH.out.2.1 (fun hHeld => ?_)
          clear hK K
          try simp only [Act.put, List.getElem_toArray, List.getElem_cons_succ, List.getElem_cons_zero, List.setIfInBounds_toArray, List.set_cons_zero, List.set_cons_succ]
          refine wpAnyH_take (i := 6) (oi := ?oiq61) (v := ?vq61) ?hiq61 (by kernel_rfl) (by kernel_rfl) (by kernel_rfl) ?hqq61 ?hyq61 hHeld ?restq61
          case hiq61 => exact rfl
          case hqq61 => exact fun _ _ _ h => h
          case hyq61 =>
            refine Or.inl ⟨by rfl, ?_⟩
            intro w hSw
            go_simp
            (try with_reducible rfl)
          try simp only [Act.put, List.getElem_toArray, List.getElem_cons_succ, List.getElem_cons_zero, List.setIfInBounds_toArray, List.set_cons_zero, List.set_cons_succ]
          refine wpAnyH_ready (rs := [7]) (by kernel_rfl) (by simp) ?_
          refine AllReadyH.cons (o := ?or62_7) ?hr62_7 ?kr62_7 AllReadyH.nil
          case hr62_7 => exact rfl
          case kr62_7 =>
            intro K hK
            refine wp_store_row 37 (.tmp 4) (.tmp 85) rfl (w.heap.size + 1) _ rfl rfl 37 _ HH.out.1 (by kernel_rfl) rfl (two1 _ _) ?_
            refine hK.out _ _ (hp_row HH.out.2.1 (by omega) _) (fun hHeld => ?_)
            clear hK K
            try simp only [Act.put, List.getElem_toArray, List.getElem_cons_succ, List.getElem_cons_zero, List.setIfInBounds_toArray, List.set_cons_zero, List.set_cons_succ]
            refine wpAnyH_done (by kernel_rfl) ?_ _
            clear hHeld
            go_wp2_with fail
            exact bodyPost_ret (results_cell_row (p := 4) (ty := 37) rfl _ _ (w.heap.size + 1) 37 _ (0, 0) _ (by rfl) (hp_row_same HH.out.1 _) Tryz.underlying37 rfl (by kernel_rfl)) rfl ⟨rfl, below_setRow HH.out.2.2 (by omega) _⟩
  · have hsem : rawG l b = ⟨min xa.lo xb.lo, min xa.hi xb.hi⟩ := by unfold rawG; rw [h7, eA, eB]; rfl
    rw [show min xa.lo xb.lo = xb.lo by omega, show min xa.hi xb.hi = xa.hi by omega] at hsem
    have d1 : decide (xb.lo < xa.lo) = true := decide_eq_true m1
    have d2 : decide (xb.hi < xa.hi) = false := decide_eq_false m2
    rw [hsem, h4]
    rw [h7]
    clear hsem eA eB hxa hxb oa ob p0 p1 q0 q1 hr hb ha hbb ho hw h4 h7 hl 
    go_enter Tryz.func73, Tryz.ntmps73
    go_wp2_with fail
    have f0 := fun o2 => F0.out (.cells #[.int .i64 5, .int .i64 l.to, .int .i64 l.a, .int .i64 l.b] 42) o2
    have g0 := fun o2 o3 => cell_alloc_keep (o := o3) (f0 o2)
    have k0 := fun o2 o3 o4 => cell_alloc_keep (o := o4) (g0 o2 o3)
    have f1 := fun o2 => F1.out (.cells #[.int .i64 5, .int .i64 l.to, .int .i64 l.a, .int .i64 l.b] 42) o2
    have g1 := fun o2 o3 => cell_alloc_keep (o := o3) (f1 o2)
    have k1 := fun o2 o3 o4 => cell_alloc_keep (o := o4) (g1 o2 o3)
    have f2 := fun o2 => F2.out (.cells #[.int .i64 5, .int .i64 l.to, .int .i64 l.a, .int .i64 l.b] 42) o2
    have g2 := fun o2 o3 => cell_alloc_keep (o := o3) (f2 o2)
    have k2 := fun o2 o3 o4 => cell_alloc_keep (o := o4) (g2 o2 o3)
    have f3 := fun o2 => F3.out (.cells #[.int .i64 5, .int .i64 l.to, .int .i64 l.a, .int .i64 l.b] 42) o2
    have g3 := fun o2 o3 => cell_alloc_keep (o := o3) (f3 o2)
    have k3 := fun o2 o3 o4 => cell_alloc_keep (o := o4) (g3 o2 o3)
    go_region
    all_goals clear f0 g0 k0 f1 g1 k1 f2 g2 k2 f3 g3 k3 F0 F1 F2 F3
    all_goals go_wp2_with fail
    · have HH : Hid ((fun W => W.heap[w.heap.size + 1]? = some (.cells #[.int .i64 0, .int .i64 0] 37 (0, 0)) ∧ W.heap[w.heap.size + 1 + 1]? = some (.cells #[.int .i64 xb.lo, .int .i64 xa.hi] 37 (0, 0)) ∧ Below w.heap.size w W) (((((w.alloc (.cells #[.int .i64 5, .int .i64 l.to, .int .i64 l.a, .int .i64 l.b] 42)).alloc (.cells #[.int .i64 0, .int .i64 0] 37)).alloc (.cells #[.int .i64 xb.lo, .int .i64 xa.hi] 37)).alloc (.cells #[.int .i64 xb.lo, .int .i64 xb.hi] 37)).drew.drew)) := Lib.hid ⟨hp_drew (hp_drew (hp_alloc (hp_alloc (hp_new (by simp))))), hp_drew (hp_drew (hp_alloc (hp_new (by simp)))), Below.drew (Below.drew (((((Below.refl w.heap.size w).alloc (Nat.le_refl _) _).alloc (by simp) _).alloc (by simp only [World.size_alloc]; omega) _).alloc (by simp only [World.size_alloc]; omega) _))⟩
      refine wp_region_held_drew (S := (fun W => W.heap[w.heap.size + 1 + 1]? = some (.cells #[.int .i64 xb.lo, .int .i64 xa.hi] 37 (0, 0)))) (by kernel_rfl) ?_ (fun hHeld => ?_)
      · exact HH.out.2.1
      generalize World.drew (World.drew _) = Wd at *
      refine wpAnyH_take (i := 0) (oi := ?oiq65) (v := ?vq65) ?hiq65 (by kernel_rfl) (by kernel_rfl) (by kernel_rfl) ?hqq65 ?hyq65 hHeld ?restq65
      case hiq65 => exact rfl
      case hqq65 => exact fun _ _ _ h => h
      case hyq65 =>
        refine Or.inl ⟨by rfl, ?_⟩
        intro w hSw
        go_simp
        (try with_reducible rfl)
      try simp only [Act.put, List.getElem_toArray, List.getElem_cons_succ, List.getElem_cons_zero, List.setIfInBounds_toArray, List.set_cons_zero, List.set_cons_succ]
      refine wpAnyH_take (i := 1) (oi := ?oiq66) (v := (.int .i64 xb.lo)) ?hiq66 (by kernel_rfl) (by kernel_rfl) (by kernel_rfl) ?hqq66 ?hyq66 hHeld ?restq66
      case hiq66 => exact rfl
      case hqq66 => exact fun _ _ _ h => h
      case hyq66 =>
        refine Or.inl ⟨by rfl, ?_⟩
        intro w hSw
        have z := hp_cell hSw (j := 0) (by rfl)
        go_simp
        (try with_reducible rfl)
      try simp only [Act.put, List.getElem_toArray, List.getElem_cons_succ, List.getElem_cons_zero, List.setIfInBounds_toArray, List.set_cons_zero, List.set_cons_succ]
      refine wpAnyH_take (i := 3) (oi := ?oiq67) (v := ?vq67) ?hiq67 (by kernel_rfl) (by kernel_rfl) (by kernel_rfl) ?hqq67 ?hyq67 hHeld ?restq67
      case hiq67 => exact rfl
      case hqq67 => exact fun _ _ _ h => h
      case hyq67 =>
        refine Or.inl ⟨by rfl, ?_⟩
        intro w hSw
        go_simp
        (try with_reducible rfl)
      try simp only [Act.put, List.getElem_toArray, List.getElem_cons_succ, List.getElem_cons_zero, List.setIfInBounds_toArray, List.set_cons_zero, List.set_cons_succ]
      refine wpAnyH_take (i := 4) (oi := ?oiq68) (v := (.int .i64 xa.hi)) ?hiq68 (by kernel_rfl) (by kernel_rfl) (by kernel_rfl) ?hqq68 ?hyq68 hHeld ?restq68
      case hiq68 => exact rfl
      case hqq68 => exact fun _ _ _ h => h
      case hyq68 =>
        refine Or.inl ⟨by rfl, ?_⟩
        intro w hSw
        have z := hp_cell hSw (j := 1) (by rfl)
        go_simp
        (try with_reducible rfl)
      try simp only [Act.put, List.getElem_toArray, List.getElem_cons_succ, List.getElem_cons_zero, List.setIfInBounds_toArray, List.set_cons_zero, List.set_cons_succ]
      refine wpAnyH_ready (rs := [2]) (by kernel_rfl) (by simp) ?_
      refine AllReadyH.cons (o := ?or72_2) ?hr72_2 ?kr72_2 AllReadyH.nil
      case hr72_2 => exact rfl
      case kr72_2 =>
        intro K hK
        go_simp
        refine (rCut_any _ _).mono ?_
        rintro e w9 ⟨rfl, rfl⟩
        refine hK.out _ _ HH.out.2.1 (fun hHeld => ?_)
        clear hK K
        try simp only [Act.put, List.getElem_toArray, List.getElem_cons_succ, List.getElem_cons_zero, List.setIfInBounds_toArray, List.set_cons_zero, List.set_cons_succ]
        refine wpAnyH_ready (rs := [5]) (by kernel_rfl) (by simp) ?_
        refine AllReadyH.cons (o := ?or71_5) ?hr71_5 ?kr71_5 AllReadyH.nil
        case hr71_5 => exact rfl
        case kr71_5 =>
          intro K hK
          go_simp
          refine (rCut_any _ _).mono ?_
          rintro e w9 ⟨rfl, rfl⟩
          refine hK.out _ _ HH.out.2.1 (fun hHeld => ?_)
          clear hK K
          try simp only [Act.put, List.getElem_toArray, List.getElem_cons_succ, List.getElem_cons_zero, List.setIfInBounds_toArray, List.set_cons_zero, List.set_cons_succ]
          refine wpAnyH_take (i := 6) (oi := ?oiq69) (v := ?vq69) ?hiq69 (by kernel_rfl) (by kernel_rfl) (by kernel_rfl) ?hqq69 ?hyq69 hHeld ?restq69
          case hiq69 => exact rfl
          case hqq69 => exact fun _ _ _ h => h
          case hyq69 =>
            refine Or.inl ⟨by rfl, ?_⟩
            intro w hSw
            go_simp
            (try with_reducible rfl)
          try simp only [Act.put, List.getElem_toArray, List.getElem_cons_succ, List.getElem_cons_zero, List.setIfInBounds_toArray, List.set_cons_zero, List.set_cons_succ]
          refine wpAnyH_ready (rs := [7]) (by kernel_rfl) (by simp) ?_
          refine AllReadyH.cons (o := ?or70_7) ?hr70_7 ?kr70_7 AllReadyH.nil
          case hr70_7 => exact rfl
          case kr70_7 =>
            intro K hK
            refine wp_store_row 37 (.tmp 4) (.tmp 85) rfl (w.heap.size + 1) _ rfl rfl 37 _ HH.out.1 (by kernel_rfl) rfl (two1 _ _) ?_
            refine hK.out _ _ (hp_row HH.out.2.1 (by omega) _) (fun hHeld => ?_)
            clear hK K
            try simp only [Act.put, List.getElem_toArray, List.getElem_cons_succ, List.getElem_cons_zero, List.setIfInBounds_toArray, List.set_cons_zero, List.set_cons_succ]
            refine wpAnyH_done (by kernel_rfl) ?_ _
            clear hHeld
            go_wp2_with fail
            exact bodyPost_ret (results_cell_row (p := 4) (ty := 37) rfl _ _ (w.heap.size + 1) 37 _ (0, 0) _ (by rfl) (hp_row_same HH.out.1 _) Tryz.underlying37 rfl (by kernel_rfl)) rfl ⟨rfl, below_setRow HH.out.2.2 (by omega) _⟩
    · have HH : Hid ((fun W => W.heap[w.heap.size + 1]? = some (.cells #[.int .i64 0, .int .i64 0] 37 (0, 0)) ∧ W.heap[w.heap.size + 1 + 1 + 1]? = some (.cells #[.int .i64 xb.lo, .int .i64 xa.hi] 37 (0, 0)) ∧ Below w.heap.size w W) (((((w.alloc (.cells #[.int .i64 5, .int .i64 l.to, .int .i64 l.a, .int .i64 l.b] 42)).alloc (.cells #[.int .i64 0, .int .i64 0] 37)).alloc (.cells #[.int .i64 xb.lo, .int .i64 xb.hi] 37)).alloc (.cells #[.int .i64 xb.lo, .int .i64 xa.hi] 37)).drew.drew)) := Lib.hid ⟨hp_drew (hp_drew (hp_alloc (hp_alloc (hp_new (by simp))))), hp_drew (hp_drew (hp_new (by simp))), Below.drew (Below.drew (((((Below.refl w.heap.size w).alloc (Nat.le_refl _) _).alloc (by simp) _).alloc (by simp only [World.size_alloc]; omega) _).alloc (by simp only [World.size_alloc]; omega) _))⟩
      refine wp_region_held_drew (S := (fun W => W.heap[w.heap.size + 1 + 1 + 1]? = some (.cells #[.int .i64 xb.lo, .int .i64 xa.hi] 37 (0, 0)))) (by kernel_rfl) ?_ (fun hHeld => ?_)
      · exact HH.out.2.1
      generalize World.drew (World.drew _) = Wd at *
      refine wpAnyH_take (i := 0) (oi := ?oiq73) (v := ?vq73) ?hiq73 (by kernel_rfl) (by kernel_rfl) (by kernel_rfl) ?hqq73 ?hyq73 hHeld ?restq73
      case hiq73 => exact rfl
      case hqq73 => exact fun _ _ _ h => h
      case hyq73 =>
        refine Or.inl ⟨by rfl, ?_⟩
        intro w hSw
        go_simp
        (try with_reducible rfl)
      try simp only [Act.put, List.getElem_toArray, List.getElem_cons_succ, List.getElem_cons_zero, List.setIfInBounds_toArray, List.set_cons_zero, List.set_cons_succ]
      refine wpAnyH_take (i := 1) (oi := ?oiq74) (v := (.int .i64 xb.lo)) ?hiq74 (by kernel_rfl) (by kernel_rfl) (by kernel_rfl) ?hqq74 ?hyq74 hHeld ?restq74
      case hiq74 => exact rfl
      case hqq74 => exact fun _ _ _ h => h
      case hyq74 =>
        refine Or.inl ⟨by rfl, ?_⟩
        intro w hSw
        have z := hp_cell hSw (j := 0) (by rfl)
        go_simp
        (try with_reducible rfl)
      try simp only [Act.put, List.getElem_toArray, List.getElem_cons_succ, List.getElem_cons_zero, List.setIfInBounds_toArray, List.set_cons_zero, List.set_cons_succ]
      refine wpAnyH_take (i := 3) (oi := ?oiq75) (v := ?vq75) ?hiq75 (by kernel_rfl) (by kernel_rfl) (by kernel_rfl) ?hqq75 ?hyq75 hHeld ?restq75
      case hiq75 => exact rfl
      case hqq75 => exact fun _ _ _ h => h
      case hyq75 =>
        refine Or.inl ⟨by rfl, ?_⟩
        intro w hSw
        go_simp
        (try with_reducible rfl)
      try simp only [Act.put, List.getElem_toArray, List.getElem_cons_succ, List.getElem_cons_zero, List.setIfInBounds_toArray, List.set_cons_zero, List.set_cons_succ]
      refine wpAnyH_take (i := 4) (oi := ?oiq76) (v := (.int .i64 xa.hi)) ?hiq76 (by kernel_rfl) (by kernel_rfl) (by kernel_rfl) ?hqq76 ?hyq76 hHeld ?restq76
      case hiq76 => exact rfl
      case hqq76 => exact fun _ _ _ h => h
      case hyq76 =>
        refine Or.inl ⟨by rfl, ?_⟩
        intro w hSw
        have z := hp_cell hSw (j := 1) (by rfl)
        go_simp
        (try with_reducible rfl)
      try simp only [Act.put, List.getElem_toArray, List.getElem_cons_succ, List.getElem_cons_zero, List.setIfInBounds_toArray, List.set_cons_zero, List.set_cons_succ]
      refine wpAnyH_ready (rs := [2]) (by kernel_rfl) (by simp) ?_
      refine AllReadyH.cons (o := ?or80_2) ?hr80_2 ?kr80_2 AllReadyH.nil
      case hr80_2 => exact rfl
      case kr80_2 =>
        intro K hK
        go_simp
        refine (rCut_any _ _).mono ?_
        rintro e w9 ⟨rfl, rfl⟩
        refine hK.out _ _ HH.out.2.1 (fun hHeld => ?_)
        clear hK K
        try simp only [Act.put, List.getElem_toArray, List.getElem_cons_succ, List.getElem_cons_zero, List.setIfInBounds_toArray, List.set_cons_zero, List.set_cons_succ]
        refine wpAnyH_ready (rs := [5]) (by kernel_rfl) (by simp) ?_
        refine AllReadyH.cons (o := ?or79_5) ?hr79_5 ?kr79_5 AllReadyH.nil
        case hr79_5 => exact rfl
        case kr79_5 =>
          intro K hK
          go_simp
          refine (rCut_any _ _).mono ?_
          rintro e w9 ⟨rfl, rfl⟩
          refine hK.out _ _ HH.out.2.1 (fun hHeld => ?_)
          clear hK K
          try simp only [Act.put, List.getElem_toArray, List.getElem_cons_succ, List.getElem_cons_zero, List.setIfInBounds_toArray, List.set_cons_zero, List.set_cons_succ]
          refine wpAnyH_take (i := 6) (oi := ?oiq77) (v := ?vq77) ?hiq77 (by kernel_rfl) (by kernel_rfl) (by kernel_rfl) ?hqq77 ?hyq77 hHeld ?restq77
          case hiq77 => exact rfl
          case hqq77 => exact fun _ _ _ h => h
          case hyq77 =>
            refine Or.inl ⟨by rfl, ?_⟩
            intro w hSw
            go_simp
            (try with_reducible rfl)
          try simp only [Act.put, List.getElem_toArray, List.getElem_cons_succ, List.getElem_cons_zero, List.setIfInBounds_toArray, List.set_cons_zero, List.set_cons_succ]
          refine wpAnyH_ready (rs := [7]) (by kernel_rfl) (by simp) ?_
          refine AllReadyH.cons (o := ?or78_7) ?hr78_7 ?kr78_7 AllReadyH.nil
          case hr78_7 => exact rfl
          case kr78_7 =>
            intro K hK
            refine wp_store_row 37 (.tmp 4) (.tmp 85) rfl (w.heap.size + 1) _ rfl rfl 37 _ HH.out.1 (by kernel_rfl) rfl (two1 _ _) ?_
            refine hK.out _ _ (hp_row HH.out.2.1 (by omega) _) (fun hHeld => ?_)
            clear hK K
            try simp only [Act.put, List.getElem_toArray, List.getElem_cons_succ, List.getElem_cons_zero, List.setIfInBounds_toArray, List.set_cons_zero, List.set_cons_succ]
            refine wpAnyH_done (by kernel_rfl) ?_ _
            clear hHeld
            go_wp2_with fail
            exact bodyPost_ret (results_cell_row (p := 4) (ty := 37) rfl _ _ (w.heap.size + 1) 37 _ (0, 0) _ (by rfl) (hp_row_same HH.out.1 _) Tryz.underlying37 rfl (by kernel_rfl)) rfl ⟨rfl, below_setRow HH.out.2.2 (by omega) _⟩

end Go.Proofs.YtmpgaccpdglhkaaGreat
