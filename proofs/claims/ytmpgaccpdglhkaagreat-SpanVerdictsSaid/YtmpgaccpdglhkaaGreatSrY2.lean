/- written of the document: contract. -/
import Derived.Test.YtmpgaccpdglhkaaGreatSrW
import Derived.Test.YtmpgaccpdglhkaaGreatSpE
import Derived.Test.YtmpgaccpdglhkaaGreatRefB
set_option linter.unusedVariables false
set_option linter.unusedSimpArgs false
namespace Go.Proofs.YtmpgaccpdglhkaaGreat
open Go.RowKit Tinker


set_option maxRecDepth 100000 in
set_option maxHeartbeats 8000000 in
theorem rwritten6n (a : Option Addr) (ca : Nat) (b : List Rg) (l : L) (w : World) (hr : RangesAt w a b) (hb : OkB b) (hl : isLn l = true) (hw : Tinker.wr l = true) (h7 : l.op = 6) (h8 : ¬ (gAt b l.a).lo < (gAt b l.b).lo) :
    Calls Tryz.prog 73 #[lv l, .slice a b.length ca] w fun e w' => e = .returned (gv (cutG (rawG l b))) ∧ Below w.heap.size w w' := by
  have ha := isLn_a hl
  have hbb := isLn_b hl
  have ho := isLn_op hl
  have hw := wr_iff.1 hw
  have h4 := hb.l4
  unfold lv
  obtain ⟨a0, a3⟩ := ha (by omega)
  obtain ⟨b0, b3⟩ := hbb (by omega)
  obtain ⟨xa, hxa⟩ := get_of_lt (show l.a.toNat < b.length by rw [h4]; omega)
  obtain ⟨xb, hxb⟩ := get_of_lt (show l.b.toNat < b.length by rw [h4]; omega)
  have oa := hb.g a0 a3
  have ob := hb.g b0 b3
  have eA : gAt b l.a = xa := getD_of_get hxa
  have eB : gAt b l.b = xb := getD_of_get hxb
  rw [eA] at oa
  rw [eB] at ob
  obtain ⟨⟨_, _⟩, ⟨_, _⟩, _⟩ := okG_iff.1 oa
  obtain ⟨⟨_, _⟩, ⟨_, _⟩, _⟩ := okG_iff.1 ob
  obtain ⟨g, off, ya, rfl, hg, hya, p0, p1⟩ := hr.at_ (show l.a.toNat < b.length by rw [h4]; omega)
  rw [hxa] at hya
  injection hya with hya
  subst hya
  obtain ⟨g', off', yb, hgg, _, hyb, q0, q1⟩ := hr.at_ (show l.b.toNat < b.length by rw [h4]; omega)
  injection hgg with hgg
  injection hgg with e1 e2
  subst e1 e2
  rw [hxb] at hyb
  injection hyb with hyb
  subst hyb
  have F0 := Lib.hid (fun o1 o2 => cell_alloc_keep (o := o2) (cell_alloc_keep (o := o1) p0))
  have F1 := Lib.hid (fun o1 o2 => cell_alloc_keep (o := o2) (cell_alloc_keep (o := o1) p1))
  have F2 := Lib.hid (fun o1 o2 => cell_alloc_keep (o := o2) (cell_alloc_keep (o := o1) q0))
  have F3 := Lib.hid (fun o1 o2 => cell_alloc_keep (o := o2) (cell_alloc_keep (o := o1) q1))
  have t1 : l.a < 4 := by omega
  have t2 : l.b < 4 := by omega
  have u1 : l.a.toNat < 4 := by omega
  have u2 : l.b.toNat < 4 := by omega
  have m1 : ¬ xa.lo < xb.lo := by rw [eA, eB] at h8; exact h8
  clear h8
  by_cases m2 : xa.hi < xb.hi
  · have hsem : rawG l b = ⟨max xa.lo xb.lo, max xa.hi xb.hi⟩ := by unfold rawG; rw [h7, eA, eB]; rfl
    rw [show max xa.lo xb.lo = xa.lo by omega, show max xa.hi xb.hi = xb.hi by omega] at hsem
    have d1 : decide (xa.lo < xb.lo) = false := decide_eq_false m1
    have d2 : decide (xa.hi < xb.hi) = true := decide_eq_true m2
    rw [hsem, h4]
    rw [h7]
    clear hsem eA eB hxa hxb oa ob p0 p1 q0 q1 hr hb ha hbb ho hw h4 h7 hl 
    go_enter Tryz.func73, Tryz.ntmps73
    go_wp2_with fail
    have f0 := fun o2 => F0.out (.cells #[.int .i64 6, .int .i64 l.to, .int .i64 l.a, .int .i64 l.b] 42) o2
    have g0 := fun o2 o3 => cell_alloc_keep (o := o3) (f0 o2)
    have k0 := fun o2 o3 o4 => cell_alloc_keep (o := o4) (g0 o2 o3)
    have f1 := fun o2 => F1.out (.cells #[.int .i64 6, .int .i64 l.to, .int .i64 l.a, .int .i64 l.b] 42) o2
    have g1 := fun o2 o3 => cell_alloc_keep (o := o3) (f1 o2)
    have k1 := fun o2 o3 o4 => cell_alloc_keep (o := o4) (g1 o2 o3)
    have f2 := fun o2 => F2.out (.cells #[.int .i64 6, .int .i64 l.to, .int .i64 l.a, .int .i64 l.b] 42) o2
    have g2 := fun o2 o3 => cell_alloc_keep (o := o3) (f2 o2)
    have k2 := fun o2 o3 o4 => cell_alloc_keep (o := o4) (g2 o2 o3)
    have f3 := fun o2 => F3.out (.cells #[.int .i64 6, .int .i64 l.to, .int .i64 l.a, .int .i64 l.b] 42) o2
    have g3 := fun o2 o3 => cell_alloc_keep (o := o3) (f3 o2)
    have k3 := fun o2 o3 o4 => cell_alloc_keep (o := o4) (g3 o2 o3)
    go_region
    all_goals clear f0 g0 k0 f1 g1 k1 f2 g2 k2 f3 g3 k3 F0 F1 F2 F3
    all_goals go_wp2_with fail
    · have HH : Hid ((fun W => W.heap[w.heap.size + 1]? = some (.cells #[.int .i64 0, .int .i64 0] 37 (0, 0)) ∧ W.heap[w.heap.size + 1 + 1]? = some (.cells #[.int .i64 xa.lo, .int .i64 xb.hi] 37 (0, 0)) ∧ Below w.heap.size w W) (((((w.alloc (.cells #[.int .i64 6, .int .i64 l.to, .int .i64 l.a, .int .i64 l.b] 42)).alloc (.cells #[.int .i64 0, .int .i64 0] 37)).alloc (.cells #[.int .i64 xa.lo, .int .i64 xb.hi] 37)).alloc (.cells #[.int .i64 xb.lo, .int .i64 xb.hi] 37)).drew.drew)) := Lib.hid ⟨hp_drew (hp_drew (hp_alloc (hp_alloc (hp_new (by simp))))), hp_drew (hp_drew (hp_alloc (hp_new (by simp)))), Below.drew (Below.drew (((((Below.refl w.heap.size w).alloc (Nat.le_refl _) _).alloc (by simp) _).alloc (by simp only [World.size_alloc]; omega) _).alloc (by simp only [World.size_alloc]; omega) _))⟩
      refine wp_region_held_drew (S := (fun W => W.heap[w.heap.size + 1 + 1]? = some (.cells #[.int .i64 xa.lo, .int .i64 xb.hi] 37 (0, 0)))) (by kernel_rfl) ?_ (fun hHeld => ?_)
      · exact HH.out.2.1
      generalize World.drew (World.drew _) = Wd at *
      refine wpAnyH_take (i := 0) (oi := ?oiq145) (v := ?vq145) ?hiq145 (by kernel_rfl) (by kernel_rfl) (by kernel_rfl) ?hqq145 ?hyq145 hHeld ?restq145
      case hiq145 => exact rfl
      case hqq145 => exact fun _ _ _ h => h
      case hyq145 =>
        refine Or.inl ⟨by rfl, ?_⟩
        intro w hSw
        go_simp
        (try with_reducible rfl)
      try simp only [Act.put, List.getElem_toArray, List.getElem_cons_succ, List.getElem_cons_zero, List.setIfInBounds_toArray, List.set_cons_zero, List.set_cons_succ]
      refine wpAnyH_take (i := 1) (oi := ?oiq146) (v := (.int .i64 xa.lo)) ?hiq146 (by kernel_rfl) (by kernel_rfl) (by kernel_rfl) ?hqq146 ?hyq146 hHeld ?restq146
      case hiq146 => exact rfl
      case hqq146 => exact fun _ _ _ h => h
      case hyq146 =>
        refine Or.inl ⟨by rfl, ?_⟩
        intro w hSw
        have z := hp_cell hSw (j := 0) (by rfl)
        go_simp
        (try with_reducible rfl)
      try simp only [Act.put, List.getElem_toArray, List.getElem_cons_succ, List.getElem_cons_zero, List.setIfInBounds_toArray, List.set_cons_zero, List.set_cons_succ]
      refine wpAnyH_take (i := 3) (oi := ?oiq147) (v := ?vq147) ?hiq147 (by kernel_rfl) (by kernel_rfl) (by kernel_rfl) ?hqq147 ?hyq147 hHeld ?restq147
      case hiq147 => exact rfl
      case hqq147 => exact fun _ _ _ h => h
      case hyq147 =>
        refine Or.inl ⟨by rfl, ?_⟩
        intro w hSw
        go_simp
        (try with_reducible rfl)
      try simp only [Act.put, List.getElem_toArray, List.getElem_cons_succ, List.getElem_cons_zero, List.setIfInBounds_toArray, List.set_cons_zero, List.set_cons_succ]
      refine wpAnyH_take (i := 4) (oi := ?oiq148) (v := (.int .i64 xb.hi)) ?hiq148 (by kernel_rfl) (by kernel_rfl) (by kernel_rfl) ?hqq148 ?hyq148 hHeld ?restq148
      case hiq148 => exact rfl
      case hqq148 => exact fun _ _ _ h => h
      case hyq148 =>
        refine Or.inl ⟨by rfl, ?_⟩
        intro w hSw
        have z := hp_cell hSw (j := 1) (by rfl)
        go_simp
        (try with_reducible rfl)
      try simp only [Act.put, List.getElem_toArray, List.getElem_cons_succ, List.getElem_cons_zero, List.setIfInBounds_toArray, List.set_cons_zero, List.set_cons_succ]
      refine wpAnyH_ready (rs := [2]) (by kernel_rfl) (by simp) ?_
      refine AllReadyH.cons (o := ?or152_2) ?hr152_2 ?kr152_2 AllReadyH.nil
      case hr152_2 => exact rfl
      case kr152_2 =>
        intro K hK
        go_simp
        refine (rCut_any _ _).mono ?_
        rintro e w9 ⟨rfl, rfl⟩
        refine hK.out _ _ HH.out.2.1 (fun hHeld => ?_)
        clear hK K
        try simp only [Act.put, List.getElem_toArray, List.getElem_cons_succ, List.getElem_cons_zero, List.setIfInBounds_toArray, List.set_cons_zero, List.set_cons_succ]
        refine wpAnyH_ready (rs := [5]) (by kernel_rfl) (by simp) ?_
        refine AllReadyH.cons (o := ?or151_5) ?hr151_5 ?kr151_5 AllReadyH.nil
        case hr151_5 => exact rfl
        case kr151_5 =>
          intro K hK
          go_simp
          refine (rCut_any _ _).mono ?_
          rintro e w9 ⟨rfl, rfl⟩
          refine hK.out _ _ HH.out.2.1 (fun hHeld => ?_)
          clear hK K
          try simp only [Act.put, List.getElem_toArray, List.getElem_cons_succ, List.getElem_cons_zero, List.setIfInBounds_toArray, List.set_cons_zero, List.set_cons_succ]
          refine wpAnyH_take (i := 6) (oi := ?oiq149) (v := ?vq149) ?hiq149 (by kernel_rfl) (by kernel_rfl) (by kernel_rfl) ?hqq149 ?hyq149 hHeld ?restq149
          case hiq149 => exact rfl
          case hqq149 => exact fun _ _ _ h => h
          case hyq149 =>
            refine Or.inl ⟨by rfl, ?_⟩
            intro w hSw
            go_simp
            (try with_reducible rfl)
          try simp only [Act.put, List.getElem_toArray, List.getElem_cons_succ, List.getElem_cons_zero, List.setIfInBounds_toArray, List.set_cons_zero, List.set_cons_succ]
          refine wpAnyH_ready (rs := [7]) (by kernel_rfl) (by simp) ?_
          refine AllReadyH.cons (o := ?or150_7) ?hr150_7 ?kr150_7 AllReadyH.nil
          case hr150_7 => exact rfl
          case kr150_7 =>
            intro K hK
            refine wp_store_row 37 (.tmp 4) (.tmp 85) rfl (w.heap.size + 1) _ rfl rfl 37 _ HH.out.1 (by kernel_rfl) rfl (two1 _ _) ?_
            refine hK.out _ _ (hp_row HH.out.2.1 (by omega) _) (fun hHeld => ?_)
            clear hK K
            try simp only [Act.put, List.getElem_toArray, List.getElem_cons_succ, List.getElem_cons_zero, List.setIfInBounds_toArray, List.set_cons_zero, List.set_cons_succ]
            refine wpAnyH_done (by kernel_rfl) ?_ _
            clear hHeld
            go_wp2_with fail
            exact bodyPost_ret (results_cell_row (p := 4) (ty := 37) rfl _ _ (w.heap.size + 1) 37 _ (0, 0) _ (by rfl) (hp_row_same HH.out.1 _) Tryz.underlying37 rfl (by kernel_rfl)) rfl ⟨rfl, below_setRow HH.out.2.2 (by omega) _⟩
    · have HH : Hid ((fun W => W.heap[w.heap.size + 1]? = some (.cells #[.int .i64 0, .int .i64 0] 37 (0, 0)) ∧ W.heap[w.heap.size + 1 + 1 + 1]? = some (.cells #[.int .i64 xa.lo, .int .i64 xb.hi] 37 (0, 0)) ∧ Below w.heap.size w W) (((((w.alloc (.cells #[.int .i64 6, .int .i64 l.to, .int .i64 l.a, .int .i64 l.b] 42)).alloc (.cells #[.int .i64 0, .int .i64 0] 37)).alloc (.cells #[.int .i64 xb.lo, .int .i64 xb.hi] 37)).alloc (.cells #[.int .i64 xa.lo, .int .i64 xb.hi] 37)).drew.drew)) := Lib.hid ⟨hp_drew (hp_drew (hp_alloc (hp_alloc (hp_new (by simp))))), hp_drew (hp_drew (hp_new (by simp))), Below.drew (Below.drew (((((Below.refl w.heap.size w).alloc (Nat.le_refl _) _).alloc (by simp) _).alloc (by simp only [World.size_alloc]; omega) _).alloc (by simp only [World.size_alloc]; omega) _))⟩
      refine wp_region_held_drew (S := (fun W => W.heap[w.heap.size + 1 + 1 + 1]? = some (.cells #[.int .i64 xa.lo, .int .i64 xb.hi] 37 (0, 0)))) (by kernel_rfl) ?_ (fun hHeld => ?_)
      · exact HH.out.2.1
      generalize World.drew (World.drew _) = Wd at *
      refine wpAnyH_take (i := 0) (oi := ?oiq153) (v := ?vq153) ?hiq153 (by kernel_rfl) (by kernel_rfl) (by kernel_rfl) ?hqq153 ?hyq153 hHeld ?restq153
      case hiq153 => exact rfl
      case hqq153 => exact fun _ _ _ h => h
      case hyq153 =>
        refine Or.inl ⟨by rfl, ?_⟩
        intro w hSw
        go_simp
        (try with_reducible rfl)
      try simp only [Act.put, List.getElem_toArray, List.getElem_cons_succ, List.getElem_cons_zero, List.setIfInBounds_toArray, List.set_cons_zero, List.set_cons_succ]
      refine wpAnyH_take (i := 1) (oi := ?oiq154) (v := (.int .i64 xa.lo)) ?hiq154 (by kernel_rfl) (by kernel_rfl) (by kernel_rfl) ?hqq154 ?hyq154 hHeld ?restq154
      case hiq154 => exact rfl
      case hqq154 => exact fun _ _ _ h => h
      case hyq154 =>
        refine Or.inl ⟨by rfl, ?_⟩
        intro w hSw
        have z := hp_cell hSw (j := 0) (by rfl)
        go_simp
        (try with_reducible rfl)
      try simp only [Act.put, List.getElem_toArray, List.getElem_cons_succ, List.getElem_cons_zero, List.setIfInBounds_toArray, List.set_cons_zero, List.set_cons_succ]
      refine wpAnyH_take (i := 3) (oi := ?oiq155) (v := ?vq155) ?hiq155 (by kernel_rfl) (by kernel_rfl) (by kernel_rfl) ?hqq155 ?hyq155 hHeld ?restq155
      case hiq155 => exact rfl
      case hqq155 => exact fun _ _ _ h => h
      case hyq155 =>
        refine Or.inl ⟨by rfl, ?_⟩
        intro w hSw
        go_simp
        (try with_reducible rfl)
      try simp only [Act.put, List.getElem_toArray, List.getElem_cons_succ, List.getElem_cons_zero, List.setIfInBounds_toArray, List.set_cons_zero, List.set_cons_succ]
      refine wpAnyH_take (i := 4) (oi := ?oiq156) (v := (.int .i64 xb.hi)) ?hiq156 (by kernel_rfl) (by kernel_rfl) (by kernel_rfl) ?hqq156 ?hyq156 hHeld ?restq156
      case hiq156 => exact rfl
      case hqq156 => exact fun _ _ _ h => h
      case hyq156 =>
        refine Or.inl ⟨by rfl, ?_⟩
        intro w hSw
        have z := hp_cell hSw (j := 1) (by rfl)
        go_simp
        (try with_reducible rfl)
      try simp only [Act.put, List.getElem_toArray, List.getElem_cons_succ, List.getElem_cons_zero, List.setIfInBounds_toArray, List.set_cons_zero, List.set_cons_succ]
      refine wpAnyH_ready (rs := [2]) (by kernel_rfl) (by simp) ?_
      refine AllReadyH.cons (o := ?or160_2) ?hr160_2 ?kr160_2 AllReadyH.nil
      case hr160_2 => exact rfl
      case kr160_2 =>
        intro K hK
        go_simp
        refine (rCut_any _ _).mono ?_
        rintro e w9 ⟨rfl, rfl⟩
        refine hK.out _ _ HH.out.2.1 (fun hHeld => ?_)
        clear hK K
        try simp only [Act.put, List.getElem_toArray, List.getElem_cons_succ, List.getElem_cons_zero, List.setIfInBounds_toArray, List.set_cons_zero, List.set_cons_succ]
        refine wpAnyH_ready (rs := [5]) (by kernel_rfl) (by simp) ?_
        refine AllReadyH.cons (o := ?or159_5) ?hr159_5 ?kr159_5 AllReadyH.nil
        case hr159_5 => exact rfl
        case kr159_5 =>
          intro K hK
          go_simp
          refine (rCut_any _ _).mono ?_
          rintro e w9 ⟨rfl, rfl⟩
          refine hK.out _ _ HH.out.2.1 (fun hHeld => ?_)
          clear hK K
          try simp only [Act.put, List.getElem_toArray, List.getElem_cons_succ, List.getElem_cons_zero, List.setIfInBounds_toArray, List.set_cons_zero, List.set_cons_succ]
          refine wpAnyH_take (i := 6) (oi := ?oiq157) (v := ?vq157) ?hiq157 (by kernel_rfl) (by kernel_rfl) (by kernel_rfl) ?hqq157 ?hyq157 hHeld ?restq157
          case hiq157 => exact rfl
          case hqq157 => exact fun _ _ _ h => h
          case hyq157 =>
            refine Or.inl ⟨by rfl, ?_⟩
            intro w hSw
            go_simp
            (try with_reducible rfl)
          try simp only [Act.put, List.getElem_toArray, List.getElem_cons_succ, List.getElem_cons_zero, List.setIfInBounds_toArray, List.set_cons_zero, List.set_cons_succ]
          refine wpAnyH_ready (rs := [7]) (by kernel_rfl) (by simp) ?_
          refine AllReadyH.cons (o := ?or158_7) ?hr158_7 ?kr158_7 AllReadyH.nil
          case hr158_7 => exact rfl
          case kr158_7 =>
            intro K hK
            refine wp_store_row 37 (.tmp 4) (.tmp 85) rfl (w.heap.size + 1) _ rfl rfl 37 _ HH.out.1 (by kernel_rfl) rfl (two1 _ _) ?_
            refine hK.out _ _ (hp_row HH.out.2.1 (by omega) _) (fun hHeld => ?_)
            clear hK K
            try simp only [Act.put, List.getElem_toArray, List.getElem_cons_succ, List.getElem_cons_zero, List.setIfInBounds_toArray, List.set_cons_zero, List.set_cons_succ]
            refine wpAnyH_done (by kernel_rfl) ?_ _
            clear hHeld
            go_wp2_with fail
            exact bodyPost_ret (results_cell_row (p := 4) (ty := 37) rfl _ _ (w.heap.size + 1) 37 _ (0, 0) _ (by rfl) (hp_row_same HH.out.1 _) Tryz.underlying37 rfl (by kernel_rfl)) rfl ⟨rfl, below_setRow HH.out.2.2 (by omega) _⟩
  · have hsem : rawG l b = ⟨max xa.lo xb.lo, max xa.hi xb.hi⟩ := by unfold rawG; rw [h7, eA, eB]; rfl
    rw [show max xa.lo xb.lo = xa.lo by omega, show max xa.hi xb.hi = xa.hi by omega] at hsem
    have d1 : decide (xa.lo < xb.lo) = false := decide_eq_false m1
    have d2 : decide (xa.hi < xb.hi) = false := decide_eq_false m2
    rw [hsem, h4]
    rw [h7]
    clear hsem eA eB hxa hxb oa ob p0 p1 q0 q1 hr hb ha hbb ho hw h4 h7 hl 
    go_enter Tryz.func73, Tryz.ntmps73
    go_wp2_with fail
    have f0 := fun o2 => F0.out (.cells #[.int .i64 6, .int .i64 l.to, .int .i64 l.a, .int .i64 l.b] 42) o2
    have g0 := fun o2 o3 => cell_alloc_keep (o := o3) (f0 o2)
    have k0 := fun o2 o3 o4 => cell_alloc_keep (o := o4) (g0 o2 o3)
    have f1 := fun o2 => F1.out (.cells #[.int .i64 6, .int .i64 l.to, .int .i64 l.a, .int .i64 l.b] 42) o2
    have g1 := fun o2 o3 => cell_alloc_keep (o := o3) (f1 o2)
    have k1 := fun o2 o3 o4 => cell_alloc_keep (o := o4) (g1 o2 o3)
    have f2 := fun o2 => F2.out (.cells #[.int .i64 6, .int .i64 l.to, .int .i64 l.a, .int .i64 l.b] 42) o2
    have g2 := fun o2 o3 => cell_alloc_keep (o := o3) (f2 o2)
    have k2 := fun o2 o3 o4 => cell_alloc_keep (o := o4) (g2 o2 o3)
    have f3 := fun o2 => F3.out (.cells #[.int .i64 6, .int .i64 l.to, .int .i64 l.a, .int .i64 l.b] 42) o2
    have g3 := fun o2 o3 => cell_alloc_keep (o := o3) (f3 o2)
    have k3 := fun o2 o3 o4 => cell_alloc_keep (o := o4) (g3 o2 o3)
    go_region
    all_goals clear f0 g0 k0 f1 g1 k1 f2 g2 k2 f3 g3 k3 F0 F1 F2 F3
    all_goals go_wp2_with fail
    · have HH : Hid ((fun W => W.heap[w.heap.size + 1]? = some (.cells #[.int .i64 0, .int .i64 0] 37 (0, 0)) ∧ W.heap[w.heap.size + 1 + 1]? = some (.cells #[.int .i64 xa.lo, .int .i64 xa.hi] 37 (0, 0)) ∧ Below w.heap.size w W) (((((w.alloc (.cells #[.int .i64 6, .int .i64 l.to, .int .i64 l.a, .int .i64 l.b] 42)).alloc (.cells #[.int .i64 0, .int .i64 0] 37)).alloc (.cells #[.int .i64 xa.lo, .int .i64 xa.hi] 37)).alloc (.cells #[.int .i64 xb.lo, .int .i64 xb.hi] 37)).drew.drew)) := Lib.hid ⟨hp_drew (hp_drew (hp_alloc (hp_alloc (hp_new (by simp))))), hp_drew (hp_drew (hp_alloc (hp_new (by simp)))), Below.drew (Below.drew (((((Below.refl w.heap.size w).alloc (Nat.le_refl _) _).alloc (by simp) _).alloc (by simp only [World.size_alloc]; omega) _).alloc (by simp only [World.size_alloc]; omega) _))⟩
      refine wp_region_held_drew (S := (fun W => W.heap[w.heap.size + 1 + 1]? = some (.cells #[.int .i64 xa.lo, .int .i64 xa.hi] 37 (0, 0)))) (by kernel_rfl) ?_ (fun hHeld => ?_)
      · exact HH.out.2.1
      generalize World.drew (World.drew _) = Wd at *
      refine wpAnyH_take (i := 0) (oi := ?oiq161) (v := ?vq161) ?hiq161 (by kernel_rfl) (by kernel_rfl) (by kernel_rfl) ?hqq161 ?hyq161 hHeld ?restq161
      case hiq161 => exact rfl
      case hqq161 => exact fun _ _ _ h => h
      case hyq161 =>
        refine Or.inl ⟨by rfl, ?_⟩
        intro w hSw
        go_simp
        (try with_reducible rfl)
      try simp only [Act.put, List.getElem_toArray, List.getElem_cons_succ, List.getElem_cons_zero, List.setIfInBounds_toArray, List.set_cons_zero, List.set_cons_succ]
      refine wpAnyH_take (i := 1) (oi := ?oiq162) (v := (.int .i64 xa.lo)) ?hiq162 (by kernel_rfl) (by kernel_rfl) (by kernel_rfl) ?hqq162 ?hyq162 hHeld ?restq162
      case hiq162 => exact rfl
      case hqq162 => exact fun _ _ _ h => h
      case hyq162 =>
        refine Or.inl ⟨by rfl, ?_⟩
        intro w hSw
        have z := hp_cell hSw (j := 0) (by rfl)
        go_simp
        (try with_reducible rfl)
      try simp only [Act.put, List.getElem_toArray, List.getElem_cons_succ, List.getElem_cons_zero, List.setIfInBounds_toArray, List.set_cons_zero, List.set_cons_succ]
      refine wpAnyH_take (i := 3) (oi := ?oiq163) (v := ?vq163) ?hiq163 (by kernel_rfl) (by kernel_rfl) (by kernel_rfl) ?hqq163 ?hyq163 hHeld ?restq163
      case hiq163 => exact rfl
      case hqq163 => exact fun _ _ _ h => h
      case hyq163 =>
        refine Or.inl ⟨by rfl, ?_⟩
        intro w hSw
        go_simp
        (try with_reducible rfl)
      try simp only [Act.put, List.getElem_toArray, List.getElem_cons_succ, List.getElem_cons_zero, List.setIfInBounds_toArray, List.set_cons_zero, List.set_cons_succ]
      refine wpAnyH_take (i := 4) (oi := ?oiq164) (v := (.int .i64 xa.hi)) ?hiq164 (by kernel_rfl) (by kernel_rfl) (by kernel_rfl) ?hqq164 ?hyq164 hHeld ?restq164
      case hiq164 => exact rfl
      case hqq164 => exact fun _ _ _ h => h
      case hyq164 =>
        refine Or.inl ⟨by rfl, ?_⟩
        intro w hSw
        have z := hp_cell hSw (j := 1) (by rfl)
        go_simp
        (try with_reducible rfl)
      try simp only [Act.put, List.getElem_toArray, List.getElem_cons_succ, List.getElem_cons_zero, List.setIfInBounds_toArray, List.set_cons_zero, List.set_cons_succ]
      refine wpAnyH_ready (rs := [2]) (by kernel_rfl) (by simp) ?_
      refine AllReadyH.cons (o := ?or168_2) ?hr168_2 ?kr168_2 AllReadyH.nil
      case hr168_2 => exact rfl
      case kr168_2 =>
        intro K hK
        go_simp
        refine (rCut_any _ _).mono ?_
        rintro e w9 ⟨rfl, rfl⟩
        refine hK.out _ _ HH.out.2.1 (fun hHeld => ?_)
        clear hK K
        try simp only [Act.put, List.getElem_toArray, List.getElem_cons_succ, List.getElem_cons_zero, List.setIfInBounds_toArray, List.set_cons_zero, List.set_cons_succ]
        refine wpAnyH_ready (rs := [5]) (by kernel_rfl) (by simp) ?_
        refine AllReadyH.cons (o := ?or167_5) ?hr167_5 ?kr167_5 AllReadyH.nil
        case hr167_5 => exact rfl
        case kr167_5 =>
          intro K hK
          go_simp
          refine (rCut_any _ _).mono ?_
          rintro e w9 ⟨rfl, rfl⟩
          refine hK.out _ _ HH.out.2.1 (fun hHeld => ?_)
          clear hK K
          try simp only [Act.put, List.getElem_toArray, List.getElem_cons_succ, List.getElem_cons_zero, List.setIfInBounds_toArray, List.set_cons_zero, List.set_cons_succ]
          refine wpAnyH_take (i := 6) (oi := ?oiq165) (v := ?vq165) ?hiq165 (by kernel_rfl) (by kernel_rfl) (by kernel_rfl) ?hqq165 ?hyq165 hHeld ?restq165
          case hiq165 => exact rfl
          case hqq165 => exact fun _ _ _ h => h
          case hyq165 =>
            refine Or.inl ⟨by rfl, ?_⟩
            intro w hSw
            go_simp
            (try with_reducible rfl)
          try simp only [Act.put, List.getElem_toArray, List.getElem_cons_succ, List.getElem_cons_zero, List.setIfInBounds_toArray, List.set_cons_zero, List.set_cons_succ]
          refine wpAnyH_ready (rs := [7]) (by kernel_rfl) (by simp) ?_
          refine AllReadyH.cons (o := ?or166_7) ?hr166_7 ?kr166_7 AllReadyH.nil
          case hr166_7 => exact rfl
          case kr166_7 =>
            intro K hK
            refine wp_store_row 37 (.tmp 4) (.tmp 85) rfl (w.heap.size + 1) _ rfl rfl 37 _ HH.out.1 (by kernel_rfl) rfl (two1 _ _) ?_
            refine hK.out _ _ (hp_row HH.out.2.1 (by omega) _) (fun hHeld => ?_)
            clear hK K
            try simp only [Act.put, List.getElem_toArray, List.getElem_cons_succ, List.getElem_cons_zero, List.setIfInBounds_toArray, List.set_cons_zero, List.set_cons_succ]
            refine wpAnyH_done (by kernel_rfl) ?_ _
            clear hHeld
            go_wp2_with fail
            exact bodyPost_ret (results_cell_row (p := 4) (ty := 37) rfl _ _ (w.heap.size + 1) 37 _ (0, 0) _ (by rfl) (hp_row_same HH.out.1 _) Tryz.underlying37 rfl (by kernel_rfl)) rfl ⟨rfl, below_setRow HH.out.2.2 (by omega) _⟩
    · have HH : Hid ((fun W => W.heap[w.heap.size + 1]? = some (.cells #[.int .i64 0, .int .i64 0] 37 (0, 0)) ∧ W.heap[w.heap.size + 1 + 1 + 1]? = some (.cells #[.int .i64 xa.lo, .int .i64 xa.hi] 37 (0, 0)) ∧ Below w.heap.size w W) (((((w.alloc (.cells #[.int .i64 6, .int .i64 l.to, .int .i64 l.a, .int .i64 l.b] 42)).alloc (.cells #[.int .i64 0, .int .i64 0] 37)).alloc (.cells #[.int .i64 xb.lo, .int .i64 xb.hi] 37)).alloc (.cells #[.int .i64 xa.lo, .int .i64 xa.hi] 37)).drew.drew)) := Lib.hid ⟨hp_drew (hp_drew (hp_alloc (hp_alloc (hp_new (by simp))))), hp_drew (hp_drew (hp_new (by simp))), Below.drew (Below.drew (((((Below.refl w.heap.size w).alloc (Nat.le_refl _) _).alloc (by simp) _).alloc (by simp only [World.size_alloc]; omega) _).alloc (by simp only [World.size_alloc]; omega) _))⟩
      refine wp_region_held_drew (S := (fun W => W.heap[w.heap.size + 1 + 1 + 1]? = some (.cells #[.int .i64 xa.lo, .int .i64 xa.hi] 37 (0, 0)))) (by kernel_rfl) ?_ (fun hHeld => ?_)
      · exact HH.out.2.1
      generalize World.drew (World.drew _) = Wd at *
      refine wpAnyH_take (i := 0) (oi := ?oiq169) (v := ?vq169) ?hiq169 (by kernel_rfl) (by kernel_rfl) (by kernel_rfl) ?hqq169 ?hyq169 hHeld ?restq169
      case hiq169 => exact rfl
      case hqq169 => exact fun _ _ _ h => h
      case hyq169 =>
        refine Or.inl ⟨by rfl, ?_⟩
        intro w hSw
        go_simp
        (try with_reducible rfl)
      try simp only [Act.put, List.getElem_toArray, List.getElem_cons_succ, List.getElem_cons_zero, List.setIfInBounds_toArray, List.set_cons_zero, List.set_cons_succ]
      refine wpAnyH_take (i := 1) (oi := ?oiq170) (v := (.int .i64 xa.lo)) ?hiq170 (by kernel_rfl) (by kernel_rfl) (by kernel_rfl) ?hqq170 ?hyq170 hHeld ?restq170
      case hiq170 => exact rfl
      case hqq170 => exact fun _ _ _ h => h
      case hyq170 =>
        refine Or.inl ⟨by rfl, ?_⟩
        intro w hSw
        have z := hp_cell hSw (j := 0) (by rfl)
        go_simp
        (try with_reducible rfl)
      try simp only [Act.put, List.getElem_toArray, List.getElem_cons_succ, List.getElem_cons_zero, List.setIfInBounds_toArray, List.set_cons_zero, List.set_cons_succ]
      refine wpAnyH_take (i := 3) (oi := ?oiq171) (v := ?vq171) ?hiq171 (by kernel_rfl) (by kernel_rfl) (by kernel_rfl) ?hqq171 ?hyq171 hHeld ?restq171
      case hiq171 => exact rfl
      case hqq171 => exact fun _ _ _ h => h
      case hyq171 =>
        refine Or.inl ⟨by rfl, ?_⟩
        intro w hSw
        go_simp
        (try with_reducible rfl)
      try simp only [Act.put, List.getElem_toArray, List.getElem_cons_succ, List.getElem_cons_zero, List.setIfInBounds_toArray, List.set_cons_zero, List.set_cons_succ]
      refine wpAnyH_take (i := 4) (oi := ?oiq172) (v := (.int .i64 xa.hi)) ?hiq172 (by kernel_rfl) (by kernel_rfl) (by kernel_rfl) ?hqq172 ?hyq172 hHeld ?restq172
      case hiq172 => exact rfl
      case hqq172 => exact fun _ _ _ h => h
      case hyq172 =>
        refine Or.inl ⟨by rfl, ?_⟩
        intro w hSw
        have z := hp_cell hSw (j := 1) (by rfl)
        go_simp
        (try with_reducible rfl)
      try simp only [Act.put, List.getElem_toArray, List.getElem_cons_succ, List.getElem_cons_zero, List.setIfInBounds_toArray, List.set_cons_zero, List.set_cons_succ]
      refine wpAnyH_ready (rs := [2]) (by kernel_rfl) (by simp) ?_
      refine AllReadyH.cons (o := ?or176_2) ?hr176_2 ?kr176_2 AllReadyH.nil
      case hr176_2 => exact rfl
      case kr176_2 =>
        intro K hK
        go_simp
        refine (rCut_any _ _).mono ?_
        rintro e w9 ⟨rfl, rfl⟩
        refine hK.out _ _ HH.out.2.1 (fun hHeld => ?_)
        clear hK K
        try simp only [Act.put, List.getElem_toArray, List.getElem_cons_succ, List.getElem_cons_zero, List.setIfInBounds_toArray, List.set_cons_zero, List.set_cons_succ]
        refine wpAnyH_ready (rs := [5]) (by kernel_rfl) (by simp) ?_
        refine AllReadyH.cons (o := ?or175_5) ?hr175_5 ?kr175_5 AllReadyH.nil
        case hr175_5 => exact rfl
        case kr175_5 =>
          intro K hK
          go_simp
          refine (rCut_any _ _).mono ?_
          rintro e w9 ⟨rfl, rfl⟩
          refine hK.out _ _ HH.out.2.1 (fun hHeld => ?_)
          clear hK K
          try simp only [Act.put, List.getElem_toArray, List.getElem_cons_succ, List.getElem_cons_zero, List.setIfInBounds_toArray, List.set_cons_zero, List.set_cons_succ]
          refine wpAnyH_take (i := 6) (oi := ?oiq173) (v := ?vq173) ?hiq173 (by kernel_rfl) (by kernel_rfl) (by kernel_rfl) ?hqq173 ?hyq173 hHeld ?restq173
          case hiq173 => exact rfl
          case hqq173 => exact fun _ _ _ h => h
          case hyq173 =>
            refine Or.inl ⟨by rfl, ?_⟩
            intro w hSw
            go_simp
            (try with_reducible rfl)
          try simp only [Act.put, List.getElem_toArray, List.getElem_cons_succ, List.getElem_cons_zero, List.setIfInBounds_toArray, List.set_cons_zero, List.set_cons_succ]
          refine wpAnyH_ready (rs := [7]) (by kernel_rfl) (by simp) ?_
          refine AllReadyH.cons (o := ?or174_7) ?hr174_7 ?kr174_7 AllReadyH.nil
          case hr174_7 => exact rfl
          case kr174_7 =>
            intro K hK
            refine wp_store_row 37 (.tmp 4) (.tmp 85) rfl (w.heap.size + 1) _ rfl rfl 37 _ HH.out.1 (by kernel_rfl) rfl (two1 _ _) ?_
            refine hK.out _ _ (hp_row HH.out.2.1 (by omega) _) (fun hHeld => ?_)
            clear hK K
            try simp only [Act.put, List.getElem_toArray, List.getElem_cons_succ, List.getElem_cons_zero, List.setIfInBounds_toArray, List.set_cons_zero, List.set_cons_succ]
            refine wpAnyH_done (by kernel_rfl) ?_ _
            clear hHeld
            go_wp2_with fail
            exact bodyPost_ret (results_cell_row (p := 4) (ty := 37) rfl _ _ (w.heap.size + 1) 37 _ (0, 0) _ (by rfl) (hp_row_same HH.out.1 _) Tryz.underlying37 rfl (by kernel_rfl)) rfl ⟨rfl, below_setRow HH.out.2.2 (by omega) _⟩

end Go.Proofs.YtmpgaccpdglhkaaGreat
