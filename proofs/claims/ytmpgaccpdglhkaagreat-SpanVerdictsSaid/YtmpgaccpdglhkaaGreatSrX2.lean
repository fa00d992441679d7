/- written of the document: contract. -/
import Derived.Test.YtmpgaccpdglhkaaGreatSrW
import Derived.Test.YtmpgaccpdglhkaaGreatSpE
import Derived.Test.YtmpgaccpdglhkaaGreatRefB
set_option linter.unusedVariables false
set_option linter.unusedSimpArgs false
namespace Go.Proofs.YtmpgaccpdglhkaaGreat
open Go.RowKit Tinker


set_option maxRecDepth 100000 in
set_option maxHeartbeats 8000000 in
theorem rwritten5n (a : Option Addr) (ca : Nat) (b : List Rg) (l : L) (w : World) (hr : RangesAt w a b) (hb : OkB b) (hl : isLn l = true) (hw : Tinker.wr l = true) (h7 : l.op = 5) (h8 : ¬ (gAt b l.b).lo < (gAt b l.a).lo) :
    Calls Tryz.prog 73 #[lv l, .slice a b.length ca] w fun e w' => e = .returned (gv (cutG (rawG l b))) ∧ Below w.heap.size w w' := by
  have ha := isLn_a hl
  have hbb := isLn_b hl
  have ho := isLn_op hl
  have hw := wr_iff.1 hw
  have h4 := hb.l4
  unfold lv
  obtain ⟨a0, a3⟩ := ha (by omega)
  obtain ⟨b0, b3⟩ := hbb (by omega)
  obtain ⟨xa, hxa⟩ := get_of_lt (show l.a.toNat < b.length by rw [h4]; omega)
  obtain ⟨xb, hxb⟩ := get_of_lt (show l.b.toNat < b.length by rw [h4]; omega)
  have oa := hb.g a0 a3
  have ob := hb.g b0 b3
  have eA : gAt b l.a = xa := getD_of_get hxa
  have eB : gAt b l.b = xb := getD_of_get hxb
  rw [eA] at oa
  rw [eB] at ob
  obtain ⟨⟨_, _⟩, ⟨_, _⟩, _⟩ := okG_iff.1 oa
  obtain ⟨⟨_, _⟩, ⟨_, _⟩, _⟩ := okG_iff.1 ob
  obtain ⟨g, off, ya, rfl, hg, hya, p0, p1⟩ := hr.at_ (show l.a.toNat < b.length by rw [h4]; omega)
  rw [hxa] at hya
  injection hya with hya
  subst hya
  obtain ⟨g', off', yb, hgg, _, hyb, q0, q1⟩ := hr.at_ (show l.b.toNat < b.length by rw [h4]; omega)
  injection hgg with hgg
  injection hgg with e1 e2
  subst e1 e2
  rw [hxb] at hyb
  injection hyb with hyb
  subst hyb
  have F0 := Lib.hid (fun o1 o2 => cell_alloc_keep (o := o2) (cell_alloc_keep (o := o1) p0))
  have F1 := Lib.hid (fun o1 o2 => cell_alloc_keep (o := o2) (cell_alloc_keep (o := o1) p1))
  have F2 := Lib.hid (fun o1 o2 => cell_alloc_keep (o := o2) (cell_alloc_keep (o := o1) q0))
  have F3 := Lib.hid (fun o1 o2 => cell_alloc_keep (o := o2) (cell_alloc_keep (o := o1) q1))
  have t1 : l.a < 4 := by omega
  have t2 : l.b < 4 := by omega
  have u1 : l.a.toNat < 4 := by omega
  have u2 : l.b.toNat < 4 := by omega
  have m1 : ¬ xb.lo < xa.lo := by rw [eA, eB] at h8; exact h8
  clear h8
  by_cases m2 : xb.hi < xa.hi
  · have hsem : rawG l b = ⟨min xa.lo xb.lo, min xa.hi xb.hi⟩ := by unfold rawG; rw [h7, eA, eB]; rfl
    rw [show min xa.lo xb.lo = xa.lo by omega, show min xa.hi xb.hi = xb.hi by omega] at hsem
    have d1 : decide (xb.lo < xa.lo) = false := decide_eq_false m1
    have d2 : decide (xb.hi < xa.hi) = true := decide_eq_true m2
    rw [hsem, h4]
    rw [h7]
    clear hsem eA eB hxa hxb oa ob p0 p1 q0 q1 hr hb ha hbb ho hw h4 h7 hl 
    go_enter Tryz.func73, Tryz.ntmps73
    go_wp2_with fail
    have f0 := fun o2 => F0.out (.cells #[.int .i64 5, .int .i64 l.to, .int .i64 l.a, .int .i64 l.b] 42) o2
    have g0 := fun o2 o3 => cell_alloc_keep (o := o3) (f0 o2)
    have k0 := fun o2 o3 o4 => cell_alloc_keep (o := o4) (g0 o2 o3)
    have f1 := fun o2 => F1.out (.cells #[.int .i64 5, .int .i64 l.to, .int .i64 l.a, .int .i64 l.b] 42) o2
    have g1 := fun o2 o3 => cell_alloc_keep (o := o3) (f1 o2)
    have k1 := fun o2 o3 o4 => cell_alloc_keep (o := o4) (g1 o2 o3)
    have f2 := fun o2 => F2.out (.cells #[.int .i64 5, .int .i64 l.to, .int .i64 l.a, .int .i64 l.b] 42) o2
    have g2 := fun o2 o3 => cell_alloc_keep (o := o3) (f2 o2)
    have k2 := fun o2 o3 o4 => cell_alloc_keep (o := o4) (g2 o2 o3)
    have f3 := fun o2 => F3.out (.cells #[.int .i64 5, .int .i64 l.to, .int .i64 l.a, .int .i64 l.b] 42) o2
    have g3 := fun o2 o3 => cell_alloc_keep (o := o3) (f3 o2)
    have k3 := fun o2 o3 o4 => cell_alloc_keep (o := o4) (g3 o2 o3)
    go_region
    all_goals clear f0 g0 k0 f1 g1 k1 f2 g2 k2 f3 g3 k3 F0 F1 F2 F3
    all_goals go_wp2_with fail
    · have HH : Hid ((fun W => W.heap[w.heap.size + 1]? = some (.cells #[.int .i64 0, .int .i64 0] 37 (0, 0)) ∧ W.heap[w.heap.size + 1 + 1]? = some (.cells #[.int .i64 xa.lo, .int .i64 xb.hi] 37 (0, 0)) ∧ Below w.heap.size w W) (((((w.alloc (.cells #[.int .i64 5, .int .i64 l.to, .int .i64 l.a, .int .i64 l.b] 42)).alloc (.cells #[.int .i64 0, .int .i64 0] 37)).alloc (.cells #[.int .i64 xa.lo, .int .i64 xb.hi] 37)).alloc (.cells #[.int .i64 xb.lo, .int .i64 xb.hi] 37)).drew.drew)) := Lib.hid ⟨hp_drew (hp_drew (hp_alloc (hp_alloc (hp_new (by simp))))), hp_drew (hp_drew (hp_alloc (hp_new (by simp)))), Below.drew (Below.drew (((((Below.refl w.heap.size w).alloc (Nat.le_refl _) _).alloc (by simp) _).alloc (by simp only [World.size_alloc]; omega) _).alloc (by simp only [World.size_alloc]; omega) _))⟩
      refine wp_region_held_drew (S := (fun W => W.heap[w.heap.size + 1 + 1]? = some (.cells #[.int .i64 xa.lo, .int .i64 xb.hi] 37 (0, 0)))) (by kernel_rfl) ?_ (fun hHeld => ?_)
      · exact HH.out.2.1
      generalize World.drew (World.drew _) = Wd at *
      refine wpAnyH_take (i := 0) (oi := ?oiq81) (v := ?vq81) ?hiq81 (by kernel_rfl) (by kernel_rfl) (by kernel_rfl) ?hqq81 ?hyq81 hHeld ?restq81
      case hiq81 => exact rfl
      case hqq81 => exact fun _ _ _ h => h
      case hyq81 =>
        refine Or.inl ⟨by rfl, ?_⟩
        intro w hSw
        go_simp
        (try with_reducible rfl)
      try simp only [Act.put, List.getElem_toArray, List.getElem_cons_succ, List.getElem_cons_zero, List.setIfInBounds_toArray, List.set_cons_zero, List.set_cons_succ]
      refine wpAnyH_take (i := 1) (oi := ?oiq82) (v := (.int .i64 xa.lo)) ?hiq82 (by kernel_rfl) (by kernel_rfl) (by kernel_rfl) ?hqq82 ?hyq82 hHeld ?restq82
      case hiq82 => exact rfl
      case hqq82 => exact fun _ _ _ h => h
      case hyq82 =>
        refine Or.inl ⟨by rfl, ?_⟩
        intro w hSw
        have z := hp_cell hSw (j := 0) (by rfl)
        go_simp
        (try with_reducible rfl)
      try simp only [Act.put, List.getElem_toArray, List.getElem_cons_succ, List.getElem_cons_zero, List.setIfInBounds_toArray, List.set_cons_zero, List.set_cons_succ]
      refine wpAnyH_take (i := 3) (oi := ?oiq83) (v := ?vq83) ?hiq83 (by kernel_rfl) (by kernel_rfl) (by kernel_rfl) ?hqq83 ?hyq83 hHeld ?restq83
      case hiq83 => exact rfl
      case hqq83 => exact fun _ _ _ h => h
      case hyq83 =>
        refine Or.inl ⟨by rfl, ?_⟩
        intro w hSw
        go_simp
        (try with_reducible rfl)
      try simp only [Act.put, List.getElem_toArray, List.getElem_cons_succ, List.getElem_cons_zero, List.setIfInBounds_toArray, List.set_cons_zero, List.set_cons_succ]
      refine wpAnyH_take (i := 4) (oi := ?oiq84) (v := (.int .i64 xb.hi)) ?hiq84 (by kernel_rfl) (by kernel_rfl) (by kernel_rfl) ?hqq84 ?hyq84 hHeld ?restq84
      case hiq84 => exact rfl
      case hqq84 => exact fun _ _ _ h => h
      case hyq84 =>
        refine Or.inl ⟨by rfl, ?_⟩
        intro w hSw
        have z := hp_cell hSw (j := 1) (by rfl)
        go_simp
        (try with_reducible rfl)
      try simp only [Act.put, List.getElem_toArray, List.getElem_cons_succ, List.getElem_cons_zero, List.setIfInBounds_toArray, List.set_cons_zero, List.set_cons_succ]
      refine wpAnyH_ready (rs := [2]) (by kernel_rfl) (by simp) ?_
      refine AllReadyH.cons (o := ?or88_2) ?hr88_2 ?kr88_2 AllReadyH.nil
      case hr88_2 => exact rfl
      case kr88_2 =>
        intro K hK
        go_simp
        refine (rCut_any _ _).mono ?_
        rintro e w9 ⟨rfl, rfl⟩
        refine hK.out _ _ HH.out.2.1 (fun hHeld => ?_)
        clear hK K
        try simp only [Act.put, List.getElem_toArray, List.getElem_cons_succ, List.getElem_cons_zero, List.setIfInBounds_toArray, List.set_cons_zero, List.set_cons_succ]
        refine wpAnyH_ready (rs := [5]) (by kernel_rfl) (by simp) ?_
        refine AllReadyH.cons (o := ?or87_5) ?hr87_5 ?kr87_5 AllReadyH.nil
        case hr87_5 => exact rfl
        case kr87_5 =>
          intro K hK
          go_simp
          refine (rCut_any _ _).mono ?_
          rintro e w9 ⟨rfl, rfl⟩
          refine hK.out _ _ HH.out.2.1 (fun hHeld => ?_)
          clear hK K
          try simp only [Act.put, List.getElem_toArray, List.getElem_cons_succ, List.getElem_cons_zero, List.setIfInBounds_toArray, List.set_cons_zero, List.set_cons_succ]
          refine wpAnyH_take (i := 6) (oi := ?oiq85) (v := ?vq85) ?hiq85 (by kernel_rfl) (by kernel_rfl) (by kernel_rfl) ?hqq85 ?hyq85 hHeld ?restq85
          case hiq85 => exact rfl
          case hqq85 => exact fun _ _ _ h => h
          case hyq85 =>
            refine Or.inl ⟨by rfl, ?_⟩
            intro w hSw
            go_simp
            (try with_reducible rfl)
          try simp only [Act.put, List.getElem_toArray, List.getElem_cons_succ, List.getElem_cons_zero, List.setIfInBounds_toArray, List.set_cons_zero, List.set_cons_succ]
          refine wpAnyH_ready (rs := [7]) (by kernel_rfl) (by simp) ?_
          refine AllReadyH.cons (o := ?or86_7) ?hr86_7 ?kr86_7 AllReadyH.nil
          case hr86_7 => exact rfl
          case kr86_7 =>
            intro K hK
            refine wp_store_row 37 (.tmp 4) (.tmp 85) rfl (w.heap.size + 1) _ rfl rfl 37 _ HH.out.1 (by kernel_rfl) rfl (two1 _ _) ?_
            refine hK.out _ _ (hp_row HH.out.2.1 (by omega) _) (fun hHeld => ?_)
            clear hK K
            try simp only [Act.put, List.getElem_toArray, List.getElem_cons_succ, List.getElem_cons_zero, List.setIfInBounds_toArray, List.set_cons_zero, List.set_cons_succ]
            refine wpAnyH_done (by kernel_rfl) ?_ _
            clear hHeld
            go_wp2_with fail
            exact bodyPost_ret (results_cell_row (p := 4) (ty := 37) rfl _ _ (w.heap.size + 1) 37 _ (0, 0) _ (by rfl) (hp_row_same HH.out.1 _) Tryz.underlying37 rfl (by kernel_rfl)) rfl ⟨rfl, below_setRow HH.out.2.2 (by omega) _⟩
    · have HH : Hid ((fun W => W.heap[w.heap.size + 1]? = some (.cells #[.int .i64 0, .int .i64 0] 37 (0, 0)) ∧ W.heap[w.heap.size + 1 + 1 + 1]? = some (.cells #[.int .i64 xa.lo, .int .i64 xb.hi] 37 (0, 0)) ∧ Below w.heap.size w W) (((((w.alloc (.cells #[.int .i64 5, .int .i64 l.to, .int .i64 l.a, .int .i64 l.b] 42)).alloc (.cells #[.int .i64 0, .int .i64 0] 37)).alloc (.cells #[.int .i64 xb.lo, .int .i64 xb.hi] 37)).alloc (.cells #[.int .i64 xa.lo, .int .i64 xb.hi] 37)).drew.drew)) := Lib.hid ⟨hp_drew (hp_drew (hp_alloc (hp_alloc (hp_new (by simp))))), hp_drew (hp_drew (hp_new (by simp))), Below.drew (Below.drew (((((Below.refl w.heap.size w).alloc (Nat.le_refl _) _).alloc (by simp) _).alloc (by simp only [World.size_alloc]; omega) _).alloc (by simp only [World.size_alloc]; omega) _))⟩
      refine wp_region_held_drew (S := (fun W => W.heap[w.heap.size + 1 + 1 + 1]? = some (.cells #[.int .i64 xa.lo, .int .i64 xb.hi] 37 (0, 0)))) (by kernel_rfl) ?_ (fun hHeld => ?_)
      · exact HH.out.2.1
      generalize World.drew (World.drew _) = Wd at *
      refine wpAnyH_take (i := 0) (oi := ?oiq89) (v := ?vq89) ?hiq89 (by kernel_rfl) (by kernel_rfl) (by kernel_rfl) ?hqq89 ?hyq89 hHeld ?restq89
      case hiq89 => exact rfl
      case hqq89 => exact fun _ _ _ h => h
      case hyq89 =>
        refine Or.inl ⟨by rfl, ?_⟩
        intro w hSw
        go_simp
        (try with_reducible rfl)
      try simp only [Act.put, List.getElem_toArray, List.getElem_cons_succ, List.getElem_cons_zero, List.setIfInBounds_toArray, List.set_cons_zero, List.set_cons_succ]
      refine wpAnyH_take (i := 1) (oi := ?oiq90) (v := (.int .i64 xa.lo)) ?hiq90 (by kernel_rfl) (by kernel_rfl) (by kernel_rfl) ?hqq90 ?hyq90 hHeld ?restq90
      case hiq90 => exact rfl
      case hqq90 => exact fun _ _ _ h => h
      case hyq90 =>
        refine Or.inl ⟨by rfl, ?_⟩
        intro w hSw
        have z := hp_cell hSw (j := 0) (by rfl)
        go_simp
        (try with_reducible rfl)
      try simp only [Act.put, List.getElem_toArray, List.getElem_cons_succ, List.getElem_cons_zero, List.setIfInBounds_toArray, List.set_cons_zero, List.set_cons_succ]
      refine wpAnyH_take (i := 3) (oi := ?oiq91) (v := ?vq91) ?hiq91 (by kernel_rfl) (by kernel_rfl) (by kernel_rfl) ?hqq91 ?hyq91 hHeld ?restq91
      case hiq91 => exact rfl
      case hqq91 => exact fun _ _ _ h => h
      case hyq91 =>
        refine Or.inl ⟨by rfl, ?_⟩
        intro w hSw
        go_simp
        (try with_reducible rfl)
      try simp only [Act.put, List.getElem_toArray, List.getElem_cons_succ, List.getElem_cons_zero, List.setIfInBounds_toArray, List.set_cons_zero, List.set_cons_succ]
      refine wpAnyH_take (i := 4) (oi := ?oiq92) (v := (.int .i64 xb.hi)) ?hiq92 (by kernel_rfl) (by kernel_rfl) (by kernel_rfl) ?hqq92 ?hyq92 hHeld ?restq92
      case hiq92 => exact rfl
      case hqq92 => exact fun _ _ _ h => h
      case hyq92 =>
        refine Or.inl ⟨by rfl, ?_⟩
        intro w hSw
        have z := hp_cell hSw (j := 1) (by rfl)
        go_simp
        (try with_reducible rfl)
      try simp only [Act.put, List.getElem_toArray, List.getElem_cons_succ, List.getElem_cons_zero, List.setIfInBounds_toArray, List.set_cons_zero, List.set_cons_succ]
      refine wpAnyH_ready (rs := [2]) (by kernel_rfl) (by simp) ?_
      refine AllReadyH.cons (o := ?or96_2) ?hr96_2 ?kr96_2 AllReadyH.nil
      case hr96_2 => exact rfl
      case kr96_2 =>
        intro K hK
        go_simp
        refine (rCut_any _ _).mono ?_
        rintro e w9 ⟨rfl, rfl⟩
        refine hK.out _ _ HH.out.2.1 (fun hHeld => ?_)
        clear hK K
        try simp only [Act.put, List.getElem_toArray, List.getElem_cons_succ, List.getElem_cons_zero, List.setIfInBounds_toArray, List.set_cons_zero, List.set_cons_succ]
        refine wpAnyH_ready (rs := [5]) (by kernel_rfl) (by simp) ?_
        refine AllReadyH.cons (o := ?or95_5) ?hr95_5 ?kr95_5 AllReadyH.nil
        case hr95_5 => exact rfl
        case kr95_5 =>
          intro K hK
          go_simp
          refine (rCut_any _ _).mono ?_
          rintro e w9 ⟨rfl, rfl⟩
          refine hK.out _ _ HH.out.2.1 (fun hHeld => ?_)
          clear hK K
          try simp only [Act.put, List.getElem_toArray, List.getElem_cons_succ, List.getElem_cons_zero, List.setIfInBounds_toArray, List.set_cons_zero, List.set_cons_succ]
          refine wpAnyH_take (i := 6) (oi := ?oiq93) (v := ?vq93) ?hiq93 (by kernel_rfl) (by kernel_rfl) (by kernel_rfl) ?hqq93 ?hyq93 hHeld ?restq93
          case hiq93 => exact rfl
          case hqq93 => exact fun _ _ _ h => h
          case hyq93 =>
            refine Or.inl ⟨by rfl, ?_⟩
            intro w hSw
            go_simp
            (try with_reducible rfl)
          try simp only [Act.put, List.getElem_toArray, List.getElem_cons_succ, List.getElem_cons_zero, List.setIfInBounds_toArray, List.set_cons_zero, List.set_cons_succ]
          refine wpAnyH_ready (rs := [7]) (by kernel_rfl) (by simp) ?_
          refine AllReadyH.cons (o := ?or94_7) ?hr94_7 ?kr94_7 AllReadyH.nil
          case hr94_7 => exact rfl
          case kr94_7 =>
            intro K hK
            refine wp_store_row 37 (.tmp 4) (.tmp 85) rfl (w.heap.size + 1) _ rfl rfl 37 _ HH.out.1 (by kernel_rfl) rfl (two1 _ _) ?_
            refine hK.out _ _ (hp_row HH.out.2.1 (by omega) _) (fun hHeld => ?_)
            clear hK K
            try simp only [Act.put, List.getElem_toArray, List.getElem_cons_succ, List.getElem_cons_zero, List.setIfInBounds_toArray, List.set_cons_zero, List.set_cons_succ]
            refine wpAnyH_done (by kernel_rfl) ?_ _
            clear hHeld
            go_wp2_with fail
            exact bodyPost_ret (results_cell_row (p := 4) (ty := 37) rfl _ _ (w.heap.size + 1) 37 _ (0, 0) _ (by rfl) (hp_row_same HH.out.1 _) Tryz.underlying37 rfl (by kernel_rfl)) rfl ⟨rfl, below_setRow HH.out.2.2 (by omega) _⟩
  · have hsem : rawG l b = ⟨min xa.lo xb.lo, min xa.hi xb.hi⟩ := by unfold rawG; rw [h7, eA, eB]; rfl
    rw [show min xa.lo xb.lo = xa.lo by omega, show min xa.hi xb.hi = xa.hi by omega] at hsem
    have d1 : decide (xb.lo < xa.lo) = false := decide_eq_false m1
    have d2 : decide (xb.hi < xa.hi) = false := decide_eq_false m2
    rw [hsem, h4]
    rw [h7]
    clear hsem eA eB hxa hxb oa ob p0 p1 q0 q1 hr hb ha hbb ho hw h4 h7 hl 
    go_enter Tryz.func73, Tryz.ntmps73
    go_wp2_with fail
    have f0 := fun o2 => F0.out (.cells #[.int .i64 5, .int .i64 l.to, .int .i64 l.a, .int .i64 l.b] 42) o2
    have g0 := fun o2 o3 => cell_alloc_keep (o := o3) (f0 o2)
    have k0 := fun o2 o3 o4 => cell_alloc_keep (o := o4) (g0 o2 o3)
    have f1 := fun o2 => F1.out (.cells #[.int .i64 5, .int .i64 l.to, .int .i64 l.a, .int .i64 l.b] 42) o2
    have g1 := fun o2 o3 => cell_alloc_keep (o := o3) (f1 o2)
    have k1 := fun o2 o3 o4 => cell_alloc_keep (o := o4) (g1 o2 o3)
    have f2 := fun o2 => F2.out (.cells #[.int .i64 5, .int .i64 l.to, .int .i64 l.a, .int .i64 l.b] 42) o2
    have g2 := fun o2 o3 => cell_alloc_keep (o := o3) (f2 o2)
    have k2 := fun o2 o3 o4 => cell_alloc_keep (o := o4) (g2 o2 o3)
    have f3 := fun o2 => F3.out (.cells #[.int .i64 5, .int .i64 l.to, .int .i64 l.a, .int .i64 l.b] 42) o2
    have g3 := fun o2 o3 => cell_alloc_keep (o := o3) (f3 o2)
    have k3 := fun o2 o3 o4 => cell_alloc_keep (o := o4) (g3 o2 o3)
    go_region
    all_goals clear f0 g0 k0 f1 g1 k1 f2 g2 k2 f3 g3 k3 F0 F1 F2 F3
    all_goals go_wp2_with fail
    · have HH : Hid ((fun W => W.heap[w.heap.size + 1]? = some (.cells #[.int .i64 0, .int .i64 0] 37 (0, 0)) ∧ W.heap[w.heap.size + 1 + 1]? = some (.cells #[.int .i64 xa.lo, .int .i64 xa.hi] 37 (0, 0)) ∧ Below w.heap.size w W) (((((w.alloc (.cells #[.int .i64 5, .int .i64 l.to, .int .i64 l.a, .int .i64 l.b] 42)).alloc (.cells #[.int .i64 0, .int .i64 0] 37)).alloc (.cells #[.int .i64 xa.lo, .int .i64 xa.hi] 37)).alloc (.cells #[.int .i64 xb.lo, .int .i64 xb.hi] 37)).drew.drew)) := Lib.hid ⟨hp_drew (hp_drew (hp_alloc (hp_alloc (hp_new (by simp))))), hp_drew (hp_drew (hp_alloc (hp_new (by simp)))), Below.drew (Below.drew (((((Below.refl w.heap.size w).alloc (Nat.le_refl _) _).alloc (by simp) _).alloc (by simp only [World.size_alloc]; omega) _).alloc (by simp only [World.size_alloc]; omega) _))⟩
      refine wp_region_held_drew (S := (fun W => W.heap[w.heap.size + 1 + 1]? = some (.cells #[.int .i64 xa.lo, .int .i64 xa.hi] 37 (0, 0)))) (by kernel_rfl) ?_ (fun hHeld => ?_)
      · exact HH.out.2.1
      generalize World.drew (World.drew _) = Wd at *
      refine wpAnyH_take (i := 0) (oi := ?oiq97) (v := ?vq97) ?hiq97 (by kernel_rfl) (by kernel_rfl) (by kernel_rfl) ?hqq97 ?hyq97 hHeld ?restq97
      case hiq97 => exact rfl
      case hqq97 => exact fun _ _ _ h => h
      case hyq97 =>
        refine Or.inl ⟨by rfl, ?_⟩
        intro w hSw
        go_simp
        (try with_reducible rfl)
      try simp only [Act.put, List.getElem_toArray, List.getElem_cons_succ, List.getElem_cons_zero, List.setIfInBounds_toArray, List.set_cons_zero, List.set_cons_succ]
      refine wpAnyH_take (i := 1) (oi := ?oiq98) (v := (.int .i64 xa.lo)) ?hiq98 (by kernel_rfl) (by kernel_rfl) (by kernel_rfl) ?hqq98 ?hyq98 hHeld ?restq98
      case hiq98 => exact rfl
      case hqq98 => exact fun _ _ _ h => h
      case hyq98 =>
        refine Or.inl ⟨by rfl, ?_⟩
        intro w hSw
        have z := hp_cell hSw (j := 0) (by rfl)
        go_simp
        (try with_reducible rfl)
      try simp only [Act.put, List.getElem_toArray, List.getElem_cons_succ, List.getElem_cons_zero, List.setIfInBounds_toArray, List.set_cons_zero, List.set_cons_succ]
      refine wpAnyH_take (i := 3) (oi := ?oiq99) (v := ?vq99) ?hiq99 (by kernel_rfl) (by kernel_rfl) (by kernel_rfl) ?hqq99 ?hyq99 hHeld ?restq99
      case hiq99 => exact rfl
      case hqq99 => exact fun _ _ _ h => h
      case hyq99 =>
        refine Or.inl ⟨by rfl, ?_⟩
        intro w hSw
        go_simp
        (try with_reducible rfl)
      try simp only [Act.put, List.getElem_toArray, List.getElem_cons_succ, List.getElem_cons_zero, List.setIfInBounds_toArray, List.set_cons_zero, List.set_cons_succ]
      refine wpAnyH_take (i := 4) (oi := ?oiq100) (v := (.int .i64 xa.hi)) ?hiq100 (by kernel_rfl) (by kernel_rfl) (by kernel_rfl) ?hqq100 ?hyq100 hHeld ?restq100
      case hiq100 => exact rfl
      case hqq100 => exact fun _ _ _ h => h
      case hyq100 =>
        refine Or.inl ⟨by rfl, ?_⟩
        intro w hSw
        have z := hp_cell hSw (j := 1) (by rfl)
        go_simp
        (try with_reducible rfl)
      try simp only [Act.put, List.getElem_toArray, List.getElem_cons_succ, List.getElem_cons_zero, List.setIfInBounds_toArray, List.set_cons_zero, List.set_cons_succ]
      refine wpAnyH_ready (rs := [2]) (by kernel_rfl) (by simp) ?_
      refine AllReadyH.cons (o := ?or104_2) ?hr104_2 ?kr104_2 AllReadyH.nil
      case hr104_2 => exact rfl
      case kr104_2 =>
        intro K hK
        go_simp
        refine (rCut_any _ _).mono ?_
        rintro e w9 ⟨rfl, rfl⟩
        refine hK.out _ _ HH.out.2.1 (fun hHeld => ?_)
        clear hK K
        try simp only [Act.put, List.getElem_toArray, List.getElem_cons_succ, List.getElem_cons_zero, List.setIfInBounds_toArray, List.set_cons_zero, List.set_cons_succ]
        refine wpAnyH_ready (rs := [5]) (by kernel_rfl) (by simp) ?_
        refine AllReadyH.cons (o := ?or103_5) ?hr103_5 ?kr103_5 AllReadyH.nil
        case hr103_5 => exact rfl
        case kr103_5 =>
          intro K hK
          go_simp
          refine (rCut_any _ _).mono ?_
          rintro e w9 ⟨rfl, rfl⟩
          refine hK.out _ _ HH.out.2.1 (fun hHeld => ?_)
          clear hK K
          try simp only [Act.put, List.getElem_toArray, List.getElem_cons_succ, List.getElem_cons_zero, List.setIfInBounds_toArray, List.set_cons_zero, List.set_cons_succ]
          refine wpAnyH_take (i := 6) (oi := ?oiq101) (v := ?vq101) ?hiq101 (by kernel_rfl) (by kernel_rfl) (by kernel_rfl) ?hqq101 ?hyq101 hHeld ?restq101
          case hiq101 => exact rfl
          case hqq101 => exact fun _ _ _ h => h
          case hyq101 =>
            refine Or.inl ⟨by rfl, ?_⟩
            intro w hSw
            go_simp
            (try with_reducible rfl)
          try simp only [Act.put, List.getElem_toArray, List.getElem_cons_succ, List.getElem_cons_zero, List.setIfInBounds_toArray, List.set_cons_zero, List.set_cons_succ]
          refine wpAnyH_ready (rs := [7]) (by kernel_rfl) (by simp) ?_
          refine AllReadyH.cons (o := ?or102_7) ?hr102_7 ?kr102_7 AllReadyH.nil
          case hr102_7 => exact rfl
          case kr102_7 =>
            intro K hK
            refine wp_store_row 37 (.tmp 4) (.tmp 85) rfl (w.heap.size + 1) _ rfl rfl 37 _ HH.out.1 (by kernel_rfl) rfl (two1 _ _) ?_
            refine hK.out _ _ (hp_row HH.out.2.1 (by omega) _) (fun hHeld => ?_)
            clear hK K
            try simp only [Act.put, List.getElem_toArray, List.getElem_cons_succ, List.getElem_cons_zero, List.setIfInBounds_toArray, List.set_cons_zero, List.set_cons_succ]
            refine wpAnyH_done (by kernel_rfl) ?_ _
            clear hHeld
            go_wp2_with fail
            exact bodyPost_ret (results_cell_row (p := 4) (ty := 37) rfl _ _ (w.heap.size + 1) 37 _ (0, 0) _ (by rfl) (hp_row_same HH.out.1 _) Tryz.underlying37 rfl (by kernel_rfl)) rfl ⟨rfl, below_setRow HH.out.2.2 (by omega) _⟩
    · have HH : Hid ((fun W => W.heap[w.heap.size + 1]? = some (.cells #[.int .i64 0, .int .i64 0] 37 (0, 0)) ∧ W.heap[w.heap.size + 1 + 1 + 1]? = some (.cells #[.int .i64 xa.lo, .int .i64 xa.hi] 37 (0, 0)) ∧ Below w.heap.size w W) (((((w.alloc (.cells #[.int .i64 5, .int .i64 l.to, .int .i64 l.a, .int .i64 l.b] 42)).alloc (.cells #[.int .i64 0, .int .i64 0] 37)).alloc (.cells #[.int .i64 xb.lo, .int .i64 xb.hi] 37)).alloc (.cells #[.int .i64 xa.lo, .int .i64 xa.hi] 37)).drew.drew)) := Lib.hid ⟨hp_drew (hp_drew (hp_alloc (hp_alloc (hp_new (by simp))))), hp_drew (hp_drew (hp_new (by simp))), Below.drew (Below.drew (((((Below.refl w.heap.size w).alloc (Nat.le_refl _) _).alloc (by simp) _).alloc (by simp only [World.size_alloc]; omega) _).alloc (by simp only [World.size_alloc]; omega) _))⟩
      refine wp_region_held_drew (S := (fun W => W.heap[w.heap.size + 1 + 1 + 1]? = some (.cells #[.int .i64 xa.lo, .int .i64 xa.hi] 37 (0, 0)))) (by kernel_rfl) ?_ (fun hHeld => ?_)
      · exact HH.out.2.1
      generalize World.drew (World.drew _) = Wd at *
      refine wpAnyH_take (i := 0) (oi := ?oiq105) (v := ?vq105) ?hiq105 (by kernel_rfl) (by kernel_rfl) (by kernel_rfl) ?hqq105 ?hyq105 hHeld ?restq105
      case hiq105 => exact rfl
      case hqq105 => exact fun _ _ _ h => h
      case hyq105 =>
        refine Or.inl ⟨by rfl, ?_⟩
        intro w hSw
        go_simp
        (try with_reducible rfl)
      try simp only [Act.put, List.getElem_toArray, List.getElem_cons_succ, List.getElem_cons_zero, List.setIfInBounds_toArray, List.set_cons_zero, List.set_cons_succ]
      refine wpAnyH_take (i := 1) (oi := ?oiq106) (v := (.int .i64 xa.lo)) ?hiq106 (by kernel_rfl) (by kernel_rfl) (by kernel_rfl) ?hqq106 ?hyq106 hHeld ?restq106
      case hiq106 => exact rfl
      case hqq106 => exact fun _ _ _ h => h
      case hyq106 =>
        refine Or.inl ⟨by rfl, ?_⟩
        intro w hSw
        have z := hp_cell hSw (j := 0) (by rfl)
        go_simp
        (try with_reducible rfl)
      try simp only [Act.put, List.getElem_toArray, List.getElem_cons_succ, List.getElem_cons_zero, List.setIfInBounds_toArray, List.set_cons_zero, List.set_cons_succ]
      refine wpAnyH_take (i := 3) (oi := ?oiq107) (v := ?vq107) ?hiq107 (by kernel_rfl) (by kernel_rfl) (by kernel_rfl) ?hqq107 ?hyq107 hHeld ?restq107
      case hiq107 => exact rfl
      case hqq107 => exact fun _ _ _ h => h
      case hyq107 =>
        refine Or.inl ⟨by rfl, ?_⟩
        intro w hSw
        go_simp
        (try with_reducible rfl)
      try simp only [Act.put, List.getElem_toArray, List.getElem_cons_succ, List.getElem_cons_zero, List.setIfInBounds_toArray, List.set_cons_zero, List.set_cons_succ]
      refine wpAnyH_take (i := 4) (oi := ?oiq108) (v := (.int .i64 xa.hi)) ?hiq108 (by kernel_rfl) (by kernel_rfl) (by kernel_rfl) ?hqq108 ?hyq108 hHeld ?restq108
      case hiq108 => exact rfl
      case hqq108 => exact fun _ _ _ h => h
      case hyq108 =>
        refine Or.inl ⟨by rfl, ?_⟩
        intro w hSw
        have z := hp_cell hSw (j := 1) (by rfl)
        go_simp
        (try with_reducible rfl)
      try simp only [Act.put, List.getElem_toArray, List.getElem_cons_succ, List.getElem_cons_zero, List.setIfInBounds_toArray, List.set_cons_zero, List.set_cons_succ]
      refine wpAnyH_ready (rs := [2]) (by kernel_rfl) (by simp) ?_
      refine AllReadyH.cons (o := ?or112_2) ?hr112_2 ?kr112_2 AllReadyH.nil
      case hr112_2 => exact rfl
      case kr112_2 =>
        intro K hK
        go_simp
        refine (rCut_any _ _).mono ?_
        rintro e w9 ⟨rfl, rfl⟩
        refine hK.out _ _ HH.out.2.1 (fun hHeld => ?_)
        clear hK K
        try simp only [Act.put, List.getElem_toArray, List.getElem_cons_succ, List.getElem_cons_zero, List.setIfInBounds_toArray, List.set_cons_zero, List.set_cons_succ]
        refine wpAnyH_ready (rs := [5]) (by kernel_rfl) (by simp) ?_
        refine AllReadyH.cons (o := ?or111_5) ?hr111_5 ?kr111_5 AllReadyH.nil
        case hr111_5 => exact rfl
        case kr111_5 =>
          intro K hK
          go_simp
          refine (rCut_any _ _).mono ?_
          rintro e w9 ⟨rfl, rfl⟩
          refine hK.out _ _ HH.out.2.1 (fun hHeld => ?_)
          clear hK K
          try simp only [Act.put, List.getElem_toArray, List.getElem_cons_succ, List.getElem_cons_zero, List.setIfInBounds_toArray, List.set_cons_zero, List.set_cons_succ]
          refine wpAnyH_take (i := 6) (oi := ?oiq109) (v := ?vq109) ?hiq109 (by kernel_rfl) (by kernel_rfl) (by kernel_rfl) ?hqq109 ?hyq109 hHeld ?restq109
          case hiq109 => exact rfl
          case hqq109 => exact fun _ _ _ h => h
          case hyq109 =>
            refine Or.inl ⟨by rfl, ?_⟩
            intro w hSw
            go_simp
            (try with_reducible rfl)
          try simp only [Act.put, List.getElem_toArray, List.getElem_cons_succ, List.getElem_cons_zero, List.setIfInBounds_toArray, List.set_cons_zero, List.set_cons_succ]
          refine wpAnyH_ready (rs := [7]) (by kernel_rfl) (by simp) ?_
          refine AllReadyH.cons (o := ?or110_7) ?hr110_7 ?kr110_7 AllReadyH.nil
          case hr110_7 => exact rfl
          case kr110_7 =>
            intro K hK
            refine wp_store_row 37 (.tmp 4) (.tmp 85) rfl (w.heap.size + 1) _ rfl rfl 37 _ HH.out.1 (by kernel_rfl) rfl (two1 _ _) ?_
            refine hK.out _ _ (hp_row HH.out.2.1 (by omega) _) (fun hHeld => ?_)
            clear hK K
            try simp only [Act.put, List.getElem_toArray, List.getElem_cons_succ, List.getElem_cons_zero, List.setIfInBounds_toArray, List.set_cons_zero, List.set_cons_succ]
            refine wpAnyH_done (by kernel_rfl) ?_ _
            clear hHeld
            go_wp2_with fail
            exact bodyPost_ret (results_cell_row (p := 4) (ty := 37) rfl _ _ (w.heap.size + 1) 37 _ (0, 0) _ (by rfl) (hp_row_same HH.out.1 _) Tryz.underlying37 rfl (by kernel_rfl)) rfl ⟨rfl, below_setRow HH.out.2.2 (by omega) _⟩

end Go.Proofs.YtmpgaccpdglhkaaGreat
