/- written of the document: contract. -/
import Derived.Test.YtmpgaccpdglhkaaGreatSrW
import Derived.Test.YtmpgaccpdglhkaaGreatSpE
import Derived.Test.YtmpgaccpdglhkaaGreatRefB
set_option linter.unusedVariables false
set_option linter.unusedSimpArgs false
namespace Go.Proofs.YtmpgaccpdglhkaaGreat
open Go.RowKit Tinker


set_option maxRecDepth 100000 in
set_option maxHeartbeats 8000000 in
theorem rwritten6y (a : Option Addr) (ca : Nat) (b : List Rg) (l : L) (w : World) (hr : RangesAt w a b) (hb : OkB b) (hl : isLn l = true) (hw : Tinker.wr l = true) (h7 : l.op = 6) (h8 : (gAt b l.a).lo < (gAt b l.b).lo) :
    Calls Tryz.prog 73 #[lv l, .slice a b.length ca] w fun e w' => e = .returned (gv (cutG (rawG l b))) ∧ Below w.heap.size w w' := by
  have ha := isLn_a hl
  have hbb := isLn_b hl
  have ho := isLn_op hl
  have hw := wr_iff.1 hw
  have h4 := hb.l4
  unfold lv
  obtain ⟨a0, a3⟩ := ha (by omega)
  obtain ⟨b0, b3⟩ := hbb (by omega)
  obtain ⟨xa, hxa⟩ := get_of_lt (show l.a.toNat < b.length by rw [h4]; omega)
  obtain ⟨xb, hxb⟩ := get_of_lt (show l.b.toNat < b.length by rw [h4]; omega)
  have oa := hb.g a0 a3
  have ob := hb.g b0 b3
  have eA : gAt b l.a = xa := getD_of_get hxa
  have eB : gAt b l.b = xb := getD_of_get hxb
  rw [eA] at oa
  rw [eB] at ob
  obtain ⟨⟨_, _⟩, ⟨_, _⟩, _⟩ := okG_iff.1 oa
  obtain ⟨⟨_, _⟩, ⟨_, _⟩, _⟩ := okG_iff.1 ob
  obtain ⟨g, off, ya, rfl, hg, hya, p0, p1⟩ := hr.at_ (show l.a.toNat < b.length by rw [h4]; omega)
  rw [hxa] at hya
  injection hya with hya
  subst hya
  obtain ⟨g', off', yb, hgg, _, hyb, q0, q1⟩ := hr.at_ (show l.b.toNat < b.length by rw [h4]; omega)
  injection hgg with hgg
  injection hgg with e1 e2
  subst e1 e2
  rw [hxb] at hyb
  injection hyb with hyb
  subst hyb
  have F0 := Lib.hid (fun o1 o2 => cell_alloc_keep (o := o2) (cell_alloc_keep (o := o1) p0))
  have F1 := Lib.hid (fun o1 o2 => cell_alloc_keep (o := o2) (cell_alloc_keep (o := o1) p1))
  have F2 := Lib.hid (fun o1 o2 => cell_alloc_keep (o := o2) (cell_alloc_keep (o := o1) q0))
  have F3 := Lib.hid (fun o1 o2 => cell_alloc_keep (o := o2) (cell_alloc_keep (o := o1) q1))
  have t1 : l.a < 4 := by omega
  have t2 : l.b < 4 := by omega
  have u1 : l.a.toNat < 4 := by omega
  have u2 : l.b.toNat < 4 := by omega
  have m1 : xa.lo < xb.lo := by rw [eA, eB] at h8; exact h8
  clear h8
  by_cases m2 : xa.hi < xb.hi
  · have hsem : rawG l b = ⟨max xa.lo xb.lo, max xa.hi xb.hi⟩ := by unfold rawG; rw [h7, eA, eB]; rfl
    rw [show max xa.lo xb.lo = xb.lo by omega, show max xa.hi xb.hi = xb.hi by omega] at hsem
    have d1 : decide (xa.lo < xb.lo) = true := decide_eq_true m1
    have d2 : decide (xa.hi < xb.hi) = true := decide_eq_true m2
    rw [hsem, h4]
    rw [h7]
    clear hsem eA eB hxa hxb oa ob p0 p1 q0 q1 hr hb ha hbb ho hw h4 h7 hl 
    go_enter Tryz.func73, Tryz.ntmps73
    go_wp2_with fail
    have f0 := fun o2 => F0.out (.cells #[.int .i64 6, .int .i64 l.to, .int .i64 l.a, .int .i64 l.b] 42) o2
    have g0 := fun o2 o3 => cell_alloc_keep (o := o3) (f0 o2)
    have k0 := fun o2 o3 o4 => cell_alloc_keep (o := o4) (g0 o2 o3)
    have f1 := fun o2 => F1.out (.cells #[.int .i64 6, .int .i64 l.to, .int .i64 l.a, .int .i64 l.b] 42) o2
    have g1 := fun o2 o3 => cell_alloc_keep (o := o3) (f1 o2)
    have k1 := fun o2 o3 o4 => cell_alloc_keep (o := o4) (g1 o2 o3)
    have f2 := fun o2 => F2.out (.cells #[.int .i64 6, .int .i64 l.to, .int .i64 l.a, .int .i64 l.b] 42) o2
    have g2 := fun o2 o3 => cell_alloc_keep (o := o3) (f2 o2)
    have k2 := fun o2 o3 o4 => cell_alloc_keep (o := o4) (g2 o2 o3)
    have f3 := fun o2 => F3.out (.cells #[.int .i64 6, .int .i64 l.to, .int .i64 l.a, .int .i64 l.b] 42) o2
    have g3 := fun o2 o3 => cell_alloc_keep (o := o3) (f3 o2)
    have k3 := fun o2 o3 o4 => cell_alloc_keep (o := o4) (g3 o2 o3)
    go_region
    all_goals clear f0 g0 k0 f1 g1 k1 f2 g2 k2 f3 g3 k3 F0 F1 F2 F3
    all_goals go_wp2_with fail
    · have HH : Hid ((fun W => W.heap[w.heap.size + 1]? = some (.cells #[.int .i64 0, .int .i64 0] 37 (0, 0)) ∧ W.heap[w.heap.size + 1 + 1]? = some (.cells #[.int .i64 xb.lo, .int .i64 xb.hi] 37 (0, 0)) ∧ Below w.heap.size w W) (((((w.alloc (.cells #[.int .i64 6, .int .i64 l.to, .int .i64 l.a, .int .i64 l.b] 42)).alloc (.cells #[.int .i64 0, .int .i64 0] 37)).alloc (.cells #[.int .i64 xb.lo, .int .i64 xb.hi] 37)).alloc (.cells #[.int .i64 xb.lo, .int .i64 xb.hi] 37)).drew.drew)) := Lib.hid ⟨hp_drew (hp_drew (hp_alloc (hp_alloc (hp_new (by simp))))), hp_drew (hp_drew (hp_alloc (hp_new (by simp)))), Below.drew (Below.drew (((((Below.refl w.heap.size w).alloc (Nat.le_refl _) _).alloc (by simp) _).alloc (by simp only [World.size_alloc]; omega) _).alloc (by simp only [World.size_alloc]; omega) _))⟩
      refine wp_region_held_drew (S := (fun W => W.heap[w.heap.size + 1 + 1]? = some (.cells #[.int .i64 xb.lo, .int .i64 xb.hi] 37 (0, 0)))) (by kernel_rfl) ?_ (fun hHeld => ?_)
      · exact HH.out.2.1
      generalize World.drew (World.drew _) = Wd at *
      refine wpAnyH_take (i := 0) (oi := ?oiq113) (v := ?vq113) ?hiq113 (by kernel_rfl) (by kernel_rfl) (by kernel_rfl) ?hqq113 ?hyq113 hHeld ?restq113
      case hiq113 => exact rfl
      case hqq113 => exact fun _ _ _ h => h
      case hyq113 =>
        refine Or.inl ⟨by rfl, ?_⟩
        intro w hSw
        go_simp
        (try with_reducible rfl)
      try simp only [Act.put, List.getElem_toArray, List.getElem_cons_succ, List.getElem_cons_zero, List.setIfInBounds_toArray, List.set_cons_zero, List.set_cons_succ]
      refine wpAnyH_take (i := 1) (oi := ?oiq114) (v := (.int .i64 xb.lo)) ?hiq114 (by kernel_rfl) (by kernel_rfl) (by kernel_rfl) ?hqq114 ?hyq114 hHeld ?restq114
      case hiq114 => exact rfl
      case hqq114 => exact fun _ _ _ h => h
      case hyq114 =>
        refine Or.inl ⟨by rfl, ?_⟩
        intro w hSw
        have z := hp_cell hSw (j := 0) (by rfl)
        go_simp
        (try with_reducible rfl)
      try simp only [Act.put, List.getElem_toArray, List.getElem_cons_succ, List.getElem_cons_zero, List.setIfInBounds_toArray, List.set_cons_zero, List.set_cons_succ]
      refine wpAnyH_take (i := 3) (oi := ?oiq115) (v := ?vq115) ?hiq115 (by kernel_rfl) (by kernel_rfl) (by kernel_rfl) ?hqq115 ?hyq115 hHeld ?restq115
      case hiq115 => exact rfl
      case hqq115 => exact fun _ _ _ h => h
      case hyq115 =>
        refine Or.inl ⟨by rfl, ?_⟩
        intro w hSw
        go_simp
        (try with_reducible rfl)
      try simp only [Act.put, List.getElem_toArray, List.getElem_cons_succ, List.getElem_cons_zero, List.setIfInBounds_toArray, List.set_cons_zero, List.set_cons_succ]
      refine wpAnyH_take (i := 4) (oi := ?oiq116) (v := (.int .i64 xb.hi)) ?hiq116 (by kernel_rfl) (by kernel_rfl) (by kernel_rfl) ?hqq116 ?hyq116 hHeld ?restq116
      case hiq116 => exact rfl
      case hqq116 => exact fun _ _ _ h => h
      case hyq116 =>
        refine Or.inl ⟨by rfl, ?_⟩
        intro w hSw
        have z := hp_cell hSw (j := 1) (by rfl)
        go_simp
        (try with_reducible rfl)
      try simp only [Act.put, List.getElem_toArray, List.getElem_cons_succ, List.getElem_cons_zero, List.setIfInBounds_toArray, List.set_cons_zero, List.set_cons_succ]
      refine wpAnyH_ready (rs := [2]) (by kernel_rfl) (by simp) ?_
      refine AllReadyH.cons (o := ?or120_2) ?hr120_2 ?kr120_2 AllReadyH.nil
      case hr120_2 => exact rfl
      case kr120_2 =>
        intro K hK
        go_simp
        refine (rCut_any _ _).mono ?_
        rintro e w9 ⟨rfl, rfl⟩
        refine hK.out _ _ HH.out.2.1 (fun hHeld => ?_)
        clear hK K
        try simp only [Act.put, List.getElem_toArray, List.getElem_cons_succ, List.getElem_cons_zero, List.setIfInBounds_toArray, List.set_cons_zero, List.set_cons_succ]
        refine wpAnyH_ready (rs := [5]) (by kernel_rfl) (by simp) ?_
        refine AllReadyH.cons (o := ?or119_5) ?hr119_5 ?kr119_5 AllReadyH.nil
        case hr119_5 => exact rfl
        case kr119_5 =>
          intro K hK
          go_simp
          refine (rCut_any _ _).mono ?_
          rintro e w9 ⟨rfl, rfl⟩
          refine hK.out _ _ HH.out.2.1 (fun hHeld => ?_)
          clear hK K
          try simp only [Act.put, List.getElem_toArray, List.getElem_cons_succ, List.getElem_cons_zero, List.setIfInBounds_toArray, List.set_cons_zero, List.set_cons_succ]
          refine wpAnyH_take (i := 6) (oi := ?oiq117) (v := ?vq117) ?hiq117 (by kernel_rfl) (by kernel_rfl) (by kernel_rfl) ?hqq117 ?hyq117 hHeld ?restq117
          case hiq117 => exact rfl
          case hqq117 => exact fun _ _ _ h => h
          case hyq117 =>
            refine Or.inl ⟨by rfl, ?_⟩
            intro w hSw
            go_simp
            (try with_reducible rfl)
          try simp only [Act.put, List.getElem_toArray, List.getElem_cons_succ, List.getElem_cons_zero, List.setIfInBounds_toArray, List.set_cons_zero, List.set_cons_succ]
          refine wpAnyH_ready (rs := [7]) (by kernel_rfl) (by simp) ?_
          refine AllReadyH.cons (o := ?or118_7) ?hr118_7 ?kr118_7 AllReadyH.nil
          case hr118_7 => exact rfl
          case kr118_7 =>
            intro K hK
            refine wp_store_row 37 (.tmp 4) (.tmp 85) rfl (w.heap.size + 1) _ rfl rfl 37 _ HH.out.1 (by kernel_rfl) rfl (two1 _ _) ?_
            refine hK.out _ _ (hp_row HH.out.2.1 (by omega) _) (fun hHeld => ?_)
            clear hK K
            try simp only [Act.put, List.getElem_toArray, List.getElem_cons_succ, List.getElem_cons_zero, List.setIfInBounds_toArray, List.set_cons_zero, List.set_cons_succ]
            refine wpAnyH_done (by kernel_rfl) ?_ _
            clear hHeld
            go_wp2_with fail
            exact bodyPost_ret (results_cell_row (p := 4) (ty := 37) rfl _ _ (w.heap.size + 1) 37 _ (0, 0) _ (by rfl) (hp_row_same HH.out.1 _) Tryz.underlying37 rfl (by kernel_rfl)) rfl ⟨rfl, below_setRow HH.out.2.2 (by omega) _⟩
    · have HH : Hid ((fun W => W.heap[w.heap.size + 1]? = some (.cells #[.int .i64 0, .int .i64 0] 37 (0, 0)) ∧ W.heap[w.heap.size + 1 + 1 + 1]? = some (.cells #[.int .i64 xb.lo, .int .i64 xb.hi] 37 (0, 0)) ∧ Below w.heap.size w W) (((((w.alloc (.cells #[.int .i64 6, .int .i64 l.to, .int .i64 l.a, .int .i64 l.b] 42)).alloc (.cells #[.int .i64 0, .int .i64 0] 37)).alloc (.cells #[.int .i64 xb.lo, .int .i64 xb.hi] 37)).alloc (.cells #[.int .i64 xb.lo, .int .i64 xb.hi] 37)).drew.drew)) := Lib.hid ⟨hp_drew (hp_drew (hp_alloc (hp_alloc (hp_new (by simp))))), hp_drew (hp_drew (hp_new (by simp))), Below.drew (Below.drew (((((Below.refl w.heap.size w).alloc (Nat.le_refl _) _).alloc (by simp) _).alloc (by simp only [World.size_alloc]; omega) _).alloc (by simp only [World.size_alloc]; omega) _))⟩
      refine wp_region_held_drew (S := (fun W => W.heap[w.heap.size + 1 + 1 + 1]? = some (.cells #[.int .i64 xb.lo, .int .i64 xb.hi] 37 (0, 0)))) (by kernel_rfl) ?_ (fun hHeld => ?_)
      · exact HH.out.2.1
      generalize World.drew (World.drew _) = Wd at *
      refine wpAnyH_take (i := 0) (oi := ?oiq121) (v := ?vq121) ?hiq121 (by kernel_rfl) (by kernel_rfl) (by kernel_rfl) ?hqq121 ?hyq121 hHeld ?restq121
      case hiq121 => exact rfl
      case hqq121 => exact fun _ _ _ h => h
      case hyq121 =>
        refine Or.inl ⟨by rfl, ?_⟩
        intro w hSw
        go_simp
        (try with_reducible rfl)
      try simp only [Act.put, List.getElem_toArray, List.getElem_cons_succ, List.getElem_cons_zero, List.setIfInBounds_toArray, List.set_cons_zero, List.set_cons_succ]
      refine wpAnyH_take (i := 1) (oi := ?oiq122) (v := (.int .i64 xb.lo)) ?hiq122 (by kernel_rfl) (by kernel_rfl) (by kernel_rfl) ?hqq122 ?hyq122 hHeld ?restq122
      case hiq122 => exact rfl
      case hqq122 => exact fun _ _ _ h => h
      case hyq122 =>
        refine Or.inl ⟨by rfl, ?_⟩
        intro w hSw
        have z := hp_cell hSw (j := 0) (by rfl)
        go_simp
        (try with_reducible rfl)
      try simp only [Act.put, List.getElem_toArray, List.getElem_cons_succ, List.getElem_cons_zero, List.setIfInBounds_toArray, List.set_cons_zero, List.set_cons_succ]
      refine wpAnyH_take (i := 3) (oi := ?oiq123) (v := ?vq123) ?hiq123 (by kernel_rfl) (by kernel_rfl) (by kernel_rfl) ?hqq123 ?hyq123 hHeld ?restq123
      case hiq123 => exact rfl
      case hqq123 => exact fun _ _ _ h => h
      case hyq123 =>
        refine Or.inl ⟨by rfl, ?_⟩
        intro w hSw
        go_simp
        (try with_reducible rfl)
      try simp only [Act.put, List.getElem_toArray, List.getElem_cons_succ, List.getElem_cons_zero, List.setIfInBounds_toArray, List.set_cons_zero, List.set_cons_succ]
      refine wpAnyH_take (i := 4) (oi := ?oiq124) (v := (.int .i64 xb.hi)) ?hiq124 (by kernel_rfl) (by kernel_rfl) (by kernel_rfl) ?hqq124 ?hyq124 hHeld ?restq124
      case hiq124 => exact rfl
      case hqq124 => exact fun _ _ _ h => h
      case hyq124 =>
        refine Or.inl ⟨by rfl, ?_⟩
        intro w hSw
        have z := hp_cell hSw (j := 1) (by rfl)
        go_simp
        (try with_reducible rfl)
      try simp only [Act.put, List.getElem_toArray, List.getElem_cons_succ, List.getElem_cons_zero, List.setIfInBounds_toArray, List.set_cons_zero, List.set_cons_succ]
      refine wpAnyH_ready (rs := [2]) (by kernel_rfl) (by simp) ?_
      refine AllReadyH.cons (o := ?or128_2) ?hr128_2 ?kr128_2 AllReadyH.nil
      case hr128_2 => exact rfl
      case kr128_2 =>
        intro K hK
        go_simp
        refine (rCut_any _ _).mono ?_
        rintro e w9 ⟨rfl, rfl⟩
        refine hK.out _ _ HH.out.2.1 (fun hHeld => ?_)
        clear hK K
        try simp only [Act.put, List.getElem_toArray, List.getElem_cons_succ, List.getElem_cons_zero, List.setIfInBounds_toArray, List.set_cons_zero, List.set_cons_succ]
        refine wpAnyH_ready (rs := [5]) (by kernel_rfl) (by simp) ?_
        refine AllReadyH.cons (o := ?or127_5) ?hr127_5 ?kr127_5 AllReadyH.nil
        case hr127_5 => exact rfl
        case kr127_5 =>
          intro K hK
          go_simp
          refine (rCut_any _ _).mono ?_
          rintro e w9 ⟨rfl, rfl⟩
          refine hK.out _ _ HH.out.2.1 (fun hHeld => ?_)
          clear hK K
          try simp only [Act.put, List.getElem_toArray, List.getElem_cons_succ, List.getElem_cons_zero, List.setIfInBounds_toArray, List.set_cons_zero, List.set_cons_succ]
          refine wpAnyH_take (i := 6) (oi := ?oiq125) (v := ?vq125) ?hiq125 (by kernel_rfl) (by kernel_rfl) (by kernel_rfl) ?hqq125 ?hyq125 hHeld ?restq125
          case hiq125 => exact rfl
          case hqq125 => exact fun _ _ _ h => h
          case hyq125 =>
            refine Or.inl ⟨by rfl, ?_⟩
            intro w hSw
            go_simp
            (try with_reducible rfl)
          try simp only [Act.put, List.getElem_toArray, List.getElem_cons_succ, List.getElem_cons_zero, List.setIfInBounds_toArray, List.set_cons_zero, List.set_cons_succ]
          refine wpAnyH_ready (rs := [7]) (by kernel_rfl) (by simp) ?_
          refine AllReadyH.cons (o := ?or126_7) ?hr126_7 ?kr126_7 AllReadyH.nil
          case hr126_7 => exact rfl
          case kr126_7 =>
            intro K hK
            refine wp_store_row 37 (.tmp 4) (.tmp 85) rfl (w.heap.size + 1) _ rfl rfl 37 _ HH.out.1 (by kernel_rfl) rfl (two1 _ _) ?_
            refine hK.out _ _ (hp_row HH.out.2.1 (by omega) _) (fun hHeld => ?_)
            clear hK K
            try simp only [Act.put, List.getElem_toArray, List.getElem_cons_succ, List.getElem_cons_zero, List.setIfInBounds_toArray, List.set_cons_zero, List.set_cons_succ]
            refine wpAnyH_done (by kernel_rfl) ?_ _
            clear hHeld
            go_wp2_with fail
            exact bodyPost_ret (results_cell_row (p := 4) (ty := 37) rfl _ _ (w.heap.size + 1) 37 _ (0, 0) _ (by rfl) (hp_row_same HH.out.1 _) Tryz.underlying37 rfl (by kernel_rfl)) rfl ⟨rfl, below_setRow HH.out.2.2 (by omega) _⟩
  · have hsem : rawG l b = ⟨max xa.lo xb.lo, max xa.hi xb.hi⟩ := by unfold rawG; rw [h7, eA, eB]; rfl
    rw [show max xa.lo xb.lo = xb.lo by omega, show max xa.hi xb.hi = xa.hi by omega] at hsem
    have d1 : decide (xa.lo < xb.lo) = true := decide_eq_true m1
    have d2 : decide (xa.hi < xb.hi) = false := decide_eq_false m2
    rw [hsem, h4]
    rw [h7]
    clear hsem eA eB hxa hxb oa ob p0 p1 q0 q1 hr hb ha hbb ho hw h4 h7 hl 
    go_enter Tryz.func73, Tryz.ntmps73
    go_wp2_with fail
    have f0 := fun o2 => F0.out (.cells #[.int .i64 6, .int .i64 l.to, .int .i64 l.a, .int .i64 l.b] 42) o2
    have g0 := fun o2 o3 => cell_alloc_keep (o := o3) (f0 o2)
    have k0 := fun o2 o3 o4 => cell_alloc_keep (o := o4) (g0 o2 o3)
    have f1 := fun o2 => F1.out (.cells #[.int .i64 6, .int .i64 l.to, .int .i64 l.a, .int .i64 l.b] 42) o2
    have g1 := fun o2 o3 => cell_alloc_keep (o := o3) (f1 o2)
    have k1 := fun o2 o3 o4 => cell_alloc_keep (o := o4) (g1 o2 o3)
    have f2 := fun o2 => F2.out (.cells #[.int .i64 6, .int .i64 l.to, .int .i64 l.a, .int .i64 l.b] 42) o2
    have g2 := fun o2 o3 => cell_alloc_keep (o := o3) (f2 o2)
    have k2 := fun o2 o3 o4 => cell_alloc_keep (o := o4) (g2 o2 o3)
    have f3 := fun o2 => F3.out (.cells #[.int .i64 6, .int .i64 l.to, .int .i64 l.a, .int .i64 l.b] 42) o2
    have g3 := fun o2 o3 => cell_alloc_keep (o := o3) (f3 o2)
    have k3 := fun o2 o3 o4 => cell_alloc_keep (o := o4) (g3 o2 o3)
    go_region
    all_goals clear f0 g0 k0 f1 g1 k1 f2 g2 k2 f3 g3 k3 F0 F1 F2 F3
    all_goals go_wp2_with fail
    · have HH : Hid ((fun W => W.heap[w.heap.size + 1]? = some (.cells #[.int .i64 0, .int .i64 0] 37 (0, 0)) ∧ W.heap[w.heap.size + 1 + 1]? = some (.cells #[.int .i64 xb.lo, .int .i64 xa.hi] 37 (0, 0)) ∧ Below w.heap.size w W) (((((w.alloc (.cells #[.int .i64 6, .int .i64 l.to, .int .i64 l.a, .int .i64 l.b] 42)).alloc (.cells #[.int .i64 0, .int .i64 0] 37)).alloc (.cells #[.int .i64 xb.lo, .int .i64 xa.hi] 37)).alloc (.cells #[.int .i64 xb.lo, .int .i64 xb.hi] 37)).drew.drew)) := Lib.hid ⟨hp_drew (hp_drew (hp_alloc (hp_alloc (hp_new (by simp))))), hp_drew (hp_drew (hp_alloc (hp_new (by simp)))), Below.drew (Below.drew (((((Below.refl w.heap.size w).alloc (Nat.le_refl _) _).alloc (by simp) _).alloc (by simp only [World.size_alloc]; omega) _).alloc (by simp only [World.size_alloc]; omega) _))⟩
      refine wp_region_held_drew (S := (fun W => W.heap[w.heap.size + 1 + 1]? = some (.cells #[.int .i64 xb.lo, .int .i64 xa.hi] 37 (0, 0)))) (by kernel_rfl) ?_ (fun hHeld => ?_)
      · exact HH.out.2.1
      generalize World.drew (World.drew _) = Wd at *
      refine wpAnyH_take (i := 0) (oi := ?oiq129) (v := ?vq129) ?hiq129 (by kernel_rfl) (by kernel_rfl) (by kernel_rfl) ?hqq129 ?hyq129 hHeld ?restq129
      case hiq129 => exact rfl
      case hqq129 => exact fun _ _ _ h => h
      case hyq129 =>
        refine Or.inl ⟨by rfl, ?_⟩
        intro w hSw
        go_simp
        (try with_reducible rfl)
      try simp only [Act.put, List.getElem_toArray, List.getElem_cons_succ, List.getElem_cons_zero, List.setIfInBounds_toArray, List.set_cons_zero, List.set_cons_succ]
      refine wpAnyH_take (i := 1) (oi := ?oiq130) (v := (.int .i64 xb.lo)) ?hiq130 (by kernel_rfl) (by kernel_rfl) (by kernel_rfl) ?hqq130 ?hyq130 hHeld ?restq130
      case hiq130 => exact rfl
      case hqq130 => exact fun _ _ _ h => h
      case hyq130 =>
        refine Or.inl ⟨by rfl, ?_⟩
        intro w hSw
        have z := hp_cell hSw (j := 0) (by rfl)
        go_simp
        (try with_reducible rfl)
      try simp only [Act.put, List.getElem_toArray, List.getElem_cons_succ, List.getElem_cons_zero, List.setIfInBounds_toArray, List.set_cons_zero, List.set_cons_succ]
      refine wpAnyH_take (i := 3) (oi := ?oiq131) (v := ?vq131) ?hiq131 (by kernel_rfl) (by kernel_rfl) (by kernel_rfl) ?hqq131 ?hyq131 hHeld ?restq131
      case hiq131 => exact rfl
      case hqq131 => exact fun _ _ _ h => h
      case hyq131 =>
        refine Or.inl ⟨by rfl, ?_⟩
        intro w hSw
        go_simp
        (try with_reducible rfl)
      try simp only [Act.put, List.getElem_toArray, List.getElem_cons_succ, List.getElem_cons_zero, List.setIfInBounds_toArray, List.set_cons_zero, List.set_cons_succ]
      refine wpAnyH_take (i := 4) (oi := ?oiq132) (v := (.int .i64 xa.hi)) ?hiq132 (by kernel_rfl) (by kernel_rfl) (by kernel_rfl) ?hqq132 ?hyq132 hHeld ?restq132
      case hiq132 => exact rfl
      case hqq132 => exact fun _ _ _ h => h
      case hyq132 =>
        refine Or.inl ⟨by rfl, ?_⟩
        intro w hSw
        have z := hp_cell hSw (j := 1) (by rfl)
        go_simp
        (try with_reducible rfl)
      try simp only [Act.put, List.getElem_toArray, List.getElem_cons_succ, List.getElem_cons_zero, List.setIfInBounds_toArray, List.set_cons_zero, List.set_cons_succ]
      refine wpAnyH_ready (rs := [2]) (by kernel_rfl) (by simp) ?_
      refine AllReadyH.cons (o := ?or136_2) ?hr136_2 ?kr136_2 AllReadyH.nil
      case hr136_2 => exact rfl
      case kr136_2 =>
        intro K hK
        go_simp
        refine (rCut_any _ _).mono ?_
        rintro e w9 ⟨rfl, rfl⟩
        refine hK.out _ _ HH.out.2.1 (fun hHeld => ?_)
        clear hK K
        try simp only [Act.put, List.getElem_toArray, List.getElem_cons_succ, List.getElem_cons_zero, List.setIfInBounds_toArray, List.set_cons_zero, List.set_cons_succ]
        refine wpAnyH_ready (rs := [5]) (by kernel_rfl) (by simp) ?_
        refine AllReadyH.cons (o := ?or135_5) ?hr135_5 ?kr135_5 AllReadyH.nil
        case hr135_5 => exact rfl
        case kr135_5 =>
          intro K hK
          go_simp
          refine (rCut_any _ _).mono ?_
          rintro e w9 ⟨rfl, rfl⟩
          refine hK.out _ _ HH.out.2.1 (fun hHeld => ?_)
          clear hK K
          try simp only [Act.put, List.getElem_toArray, List.getElem_cons_succ, List.getElem_cons_zero, List.setIfInBounds_toArray, List.set_cons_zero, List.set_cons_succ]
          refine wpAnyH_take (i := 6) (oi := ?oiq133) (v := ?vq133) ?hiq133 (by kernel_rfl) (by kernel_rfl) (by kernel_rfl) ?hqq133 ?hyq133 hHeld ?restq133
          case hiq133 => exact rfl
          case hqq133 => exact fun _ _ _ h => h
          case hyq133 =>
            refine Or.inl ⟨by rfl, ?_⟩
            intro w hSw
            go_simp
            (try with_reducible rfl)
          try simp only [Act.put, List.getElem_toArray, List.getElem_cons_succ, List.getElem_cons_zero, List.setIfInBounds_toArray, List.set_cons_zero, List.set_cons_succ]
          refine wpAnyH_ready (rs := [7]) (by kernel_rfl) (by simp) ?_
          refine AllReadyH.cons (o := ?or134_7) ?hr134_7 ?kr134_7 AllReadyH.nil
          case hr134_7 => exact rfl
          case kr134_7 =>
            intro K hK
            refine wp_store_row 37 (.tmp 4) (.tmp 85) rfl (w.heap.size + 1) _ rfl rfl 37 _ HH.out.1 (by kernel_rfl) rfl (two1 _ _) ?_
            refine hK.out _ _ (hp_row HH.out.2.1 (by omega) _) (fun hHeld => ?_)
            clear hK K
            try simp only [Act.put, List.getElem_toArray, List.getElem_cons_succ, List.getElem_cons_zero, List.setIfInBounds_toArray, List.set_cons_zero, List.set_cons_succ]
            refine wpAnyH_done (by kernel_rfl) ?_ _
            clear hHeld
            go_wp2_with fail
            exact bodyPost_ret (results_cell_row (p := 4) (ty := 37) rfl _ _ (w.heap.size + 1) 37 _ (0, 0) _ (by rfl) (hp_row_same HH.out.1 _) Tryz.underlying37 rfl (by kernel_rfl)) rfl ⟨rfl, below_setRow HH.out.2.2 (by omega) _⟩
    · have HH : Hid ((fun W => W.heap[w.heap.size + 1]? = some (.cells #[.int .i64 0, .int .i64 0] 37 (0, 0)) ∧ W.heap[w.heap.size + 1 + 1 + 1]? = some (.cells #[.int .i64 xb.lo, .int .i64 xa.hi] 37 (0, 0)) ∧ Below w.heap.size w W) (((((w.alloc (.cells #[.int .i64 6, .int .i64 l.to, .int .i64 l.a, .int .i64 l.b] 42)).alloc (.cells #[.int .i64 0, .int .i64 0] 37)).alloc (.cells #[.int .i64 xb.lo, .int .i64 xb.hi] 37)).alloc (.cells #[.int .i64 xb.lo, .int .i64 xa.hi] 37)).drew.drew)) := Lib.hid ⟨hp_drew (hp_drew (hp_alloc (hp_alloc (hp_new (by simp))))), hp_drew (hp_drew (hp_new (by simp))), Below.drew (Below.drew (((((Below.refl w.heap.size w).alloc (Nat.le_refl _) _).alloc (by simp) _).alloc (by simp only [World.size_alloc]; omega) _).alloc (by simp only [World.size_alloc]; omega) _))⟩
      refine wp_region_held_drew (S := (fun W => W.heap[w.heap.size + 1 + 1 + 1]? = some (.cells #[.int .i64 xb.lo, .int .i64 xa.hi] 37 (0, 0)))) (by kernel_rfl) ?_ (fun hHeld => ?_)
      · exact HH.out.2.1
      generalize World.drew (World.drew _) = Wd at *
      refine wpAnyH_take (i := 0) (oi := ?oiq137) (v := ?vq137) ?hiq137 (by kernel_rfl) (by kernel_rfl) (by kernel_rfl) ?hqq137 ?hyq137 hHeld ?restq137
      case hiq137 => exact rfl
      case hqq137 => exact fun _ _ _ h => h
      case hyq137 =>
        refine Or.inl ⟨by rfl, ?_⟩
        intro w hSw
        go_simp
        (try with_reducible rfl)
      try simp only [Act.put, List.getElem_toArray, List.getElem_cons_succ, List.getElem_cons_zero, List.setIfInBounds_toArray, List.set_cons_zero, List.set_cons_succ]
      refine wpAnyH_take (i := 1) (oi := ?oiq138) (v := (.int .i64 xb.lo)) ?hiq138 (by kernel_rfl) (by kernel_rfl) (by kernel_rfl) ?hqq138 ?hyq138 hHeld ?restq138
      case hiq138 => exact rfl
      case hqq138 => exact fun _ _ _ h => h
      case hyq138 =>
        refine Or.inl ⟨by rfl, ?_⟩
        intro w hSw
        have z := hp_cell hSw (j := 0) (by rfl)
        go_simp
        (try with_reducible rfl)
      try simp only [Act.put, List.getElem_toArray, List.getElem_cons_succ, List.getElem_cons_zero, List.setIfInBounds_toArray, List.set_cons_zero, List.set_cons_succ]
      refine wpAnyH_take (i := 3) (oi := ?oiq139) (v := ?vq139) ?hiq139 (by kernel_rfl) (by kernel_rfl) (by kernel_rfl) ?hqq139 ?hyq139 hHeld ?restq139
      case hiq139 => exact rfl
      case hqq139 => exact fun _ _ _ h => h
      case hyq139 =>
        refine Or.inl ⟨by rfl, ?_⟩
        intro w hSw
        go_simp
        (try with_reducible rfl)
      try simp only [Act.put, List.getElem_toArray, List.getElem_cons_succ, List.getElem_cons_zero, List.setIfInBounds_toArray, List.set_cons_zero, List.set_cons_succ]
      refine wpAnyH_take (i := 4) (oi := ?oiq140) (v := (.int .i64 xa.hi)) ?hiq140 (by kernel_rfl) (by kernel_rfl) (by kernel_rfl) ?hqq140 ?hyq140 hHeld ?restq140
      case hiq140 => exact rfl
      case hqq140 => exact fun _ _ _ h => h
      case hyq140 =>
        refine Or.inl ⟨by rfl, ?_⟩
        intro w hSw
        have z := hp_cell hSw (j := 1) (by rfl)
        go_simp
        (try with_reducible rfl)
      try simp only [Act.put, List.getElem_toArray, List.getElem_cons_succ, List.getElem_cons_zero, List.setIfInBounds_toArray, List.set_cons_zero, List.set_cons_succ]
      refine wpAnyH_ready (rs := [2]) (by kernel_rfl) (by simp) ?_
      refine AllReadyH.cons (o := ?or144_2) ?hr144_2 ?kr144_2 AllReadyH.nil
      case hr144_2 => exact rfl
      case kr144_2 =>
        intro K hK
        go_simp
        refine (rCut_any _ _).mono ?_
        rintro e w9 ⟨rfl, rfl⟩
        refine hK.out _ _ HH.out.2.1 (fun hHeld => ?_)
        clear hK K
        try simp only [Act.put, List.getElem_toArray, List.getElem_cons_succ, List.getElem_cons_zero, List.setIfInBounds_toArray, List.set_cons_zero, List.set_cons_succ]
        refine wpAnyH_ready (rs := [5]) (by kernel_rfl) (by simp) ?_
        refine AllReadyH.cons (o := ?or143_5) ?hr143_5 ?kr143_5 AllReadyH.nil
        case hr143_5 => exact rfl
        case kr143_5 =>
          intro K hK
          go_simp
          refine (rCut_any _ _).mono ?_
          rintro e w9 ⟨rfl, rfl⟩
          refine hK.out _ _ HH.out.2.1 (fun hHeld => ?_)
          clear hK K
          try simp only [Act.put, List.getElem_toArray, List.getElem_cons_succ, List.getElem_cons_zero, List.setIfInBounds_toArray, List.set_cons_zero, List.set_cons_succ]
          refine wpAnyH_take (i := 6) (oi := ?oiq141) (v := ?vq141) ?hiq141 (by kernel_rfl) (by kernel_rfl) (by kernel_rfl) ?hqq141 ?hyq141 hHeld ?restq141
          case hiq141 => exact rfl
          case hqq141 => exact fun _ _ _ h => h
          case hyq141 =>
            refine Or.inl ⟨by rfl, ?_⟩
            intro w hSw
            go_simp
            (try with_reducible rfl)
          try simp only [Act.put, List.getElem_toArray, List.getElem_cons_succ, List.getElem_cons_zero, List.setIfInBounds_toArray, List.set_cons_zero, List.set_cons_succ]
          refine wpAnyH_ready (rs := [7]) (by kernel_rfl) (by simp) ?_
          refine AllReadyH.cons (o := ?or142_7) ?hr142_7 ?kr142_7 AllReadyH.nil
          case hr142_7 => exact rfl
          case kr142_7 =>
            intro K hK
            refine wp_store_row 37 (.tmp 4) (.tmp 85) rfl (w.heap.size + 1) _ rfl rfl 37 _ HH.out.1 (by kernel_rfl) rfl (two1 _ _) ?_
            refine hK.out _ _ (hp_row HH.out.2.1 (by omega) _) (fun hHeld => ?_)
            clear hK K
            try simp only [Act.put, List.getElem_toArray, List.getElem_cons_succ, List.getElem_cons_zero, List.setIfInBounds_toArray, List.set_cons_zero, List.set_cons_succ]
            refine wpAnyH_done (by kernel_rfl) ?_ _
            clear hHeld
            go_wp2_with fail
            exact bodyPost_ret (results_cell_row (p := 4) (ty := 37) rfl _ _ (w.heap.size + 1) 37 _ (0, 0) _ (by rfl) (hp_row_same HH.out.1 _) Tryz.underlying37 rfl (by kernel_rfl)) rfl ⟨rfl, below_setRow HH.out.2.2 (by omega) _⟩

end Go.Proofs.YtmpgaccpdglhkaaGreat
