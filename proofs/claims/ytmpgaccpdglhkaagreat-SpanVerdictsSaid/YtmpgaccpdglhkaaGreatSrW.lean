/- written of the document: contract. -/
import Derived.Test.YtmpgaccpdglhkaaGreatSrA
import Derived.Test.YtmpgaccpdglhkaaGreatSpE
import Derived.Test.YtmpgaccpdglhkaaGreatRefB
set_option linter.unusedVariables false
set_option linter.unusedSimpArgs false
namespace Go.Proofs.YtmpgaccpdglhkaaGreat
open Go.RowKit Tinker

theorem isLn_v {l : L} (h : isLn l = true) (h1 : l.op = 1) : -999 ≤ l.a ∧ l.a ≤ 999 := by
  unfold isLn at h
  rw [if_neg (by omega), if_pos h1] at h
  simp only [Bool.and_eq_true] at h; have := btw_true.1 h.1.2; omega
theorem isLn_b2 {l : L} (h : isLn l = true) (h1 : l.op = 2) : l.b = 0 := by
  unfold isLn at h
  rw [if_neg (by omega), if_neg (by omega), if_pos h1] at h
  simp only [Bool.and_eq_true] at h; simpa using h.2
theorem two1 (a b : Int) : (#[.int .i64 a, .int .i64 b] : Array Value).all (·.oneCell') = true := by simp [Value.oneCell']

set_option maxRecDepth 100000 in
set_option maxHeartbeats 8000000 in
theorem rwritten1 (a : Option Addr) (ca : Nat) (b : List Rg) (l : L) (w : World) (hr : RangesAt w a b) (hb : OkB b) (hl : isLn l = true) (hw : Tinker.wr l = true) (h7 : l.op = 1) :
    Calls Tryz.prog 73 #[lv l, .slice a b.length ca] w fun e w' => e = .returned (gv (cutG (rawG l b))) ∧ Below w.heap.size w w' := by
  have ha := isLn_a hl
  have hbb := isLn_b hl
  have ho := isLn_op hl
  have hw := wr_iff.1 hw
  have h4 := hb.l4
  unfold lv
  have hsem : cutG (rawG l b) = ⟨l.a, l.a⟩ := by
    have hv := isLn_v hl h7
    unfold rawG; rw [if_pos h7]; unfold cutG; simp only [cutv_mid hv.1 hv.2]
  rw [hsem, h4]
  rw [h7]
  clear hsem hr hb ha hbb ho hw h4 h7 hl
  go_enter Tryz.func73, Tryz.ntmps73
  go_wp2_with fail
  exact bodyPost_ret (results_cell_row (p := 4) (ty := 37) rfl _ _ (w.heap.size + 1) 37 _ (0, 0) _ (by rfl) (hp_new (by simp)) Tryz.underlying37 rfl (by kernel_rfl)) rfl ⟨rfl, ((Below.refl _ _).alloc (Nat.le_refl _) _).alloc (by simp) _⟩

set_option maxRecDepth 100000 in
set_option maxHeartbeats 8000000 in
theorem rwritten3 (a : Option Addr) (ca : Nat) (b : List Rg) (l : L) (w : World) (hr : RangesAt w a b) (hb : OkB b) (hl : isLn l = true) (hw : Tinker.wr l = true) (h7 : l.op = 3) :
    Calls Tryz.prog 73 #[lv l, .slice a b.length ca] w fun e w' => e = .returned (gv (cutG (rawG l b))) ∧ Below w.heap.size w w' := by
  have ha := isLn_a hl
  have hbb := isLn_b hl
  have ho := isLn_op hl
  have hw := wr_iff.1 hw
  have h4 := hb.l4
  unfold lv
  obtain ⟨a0, a3⟩ := ha (by omega)
  obtain ⟨b0, b3⟩ := hbb (by omega)
  obtain ⟨xa, hxa⟩ := get_of_lt (show l.a.toNat < b.length by rw [h4]; omega)
  obtain ⟨xb, hxb⟩ := get_of_lt (show l.b.toNat < b.length by rw [h4]; omega)
  have oa := hb.g a0 a3
  have ob := hb.g b0 b3
  have eA : gAt b l.a = xa := getD_of_get hxa
  have eB : gAt b l.b = xb := getD_of_get hxb
  rw [eA] at oa
  rw [eB] at ob
  obtain ⟨⟨_, _⟩, ⟨_, _⟩, _⟩ := okG_iff.1 oa
  obtain ⟨⟨_, _⟩, ⟨_, _⟩, _⟩ := okG_iff.1 ob
  obtain ⟨g, off, ya, rfl, hg, hya, p0, p1⟩ := hr.at_ (show l.a.toNat < b.length by rw [h4]; omega)
  rw [hxa] at hya
  injection hya with hya
  subst hya
  obtain ⟨g', off', yb, hgg, _, hyb, q0, q1⟩ := hr.at_ (show l.b.toNat < b.length by rw [h4]; omega)
  injection hgg with hgg
  injection hgg with e1 e2
  subst e1 e2
  rw [hxb] at hyb
  injection hyb with hyb
  subst hyb
  have F0 := Lib.hid (fun o1 o2 => cell_alloc_keep (o := o2) (cell_alloc_keep (o := o1) p0))
  have F1 := Lib.hid (fun o1 o2 => cell_alloc_keep (o := o2) (cell_alloc_keep (o := o1) p1))
  have F2 := Lib.hid (fun o1 o2 => cell_alloc_keep (o := o2) (cell_alloc_keep (o := o1) q0))
  have F3 := Lib.hid (fun o1 o2 => cell_alloc_keep (o := o2) (cell_alloc_keep (o := o1) q1))
  have t1 : l.a < 4 := by omega
  have t2 : l.b < 4 := by omega
  have u1 : l.a.toNat < 4 := by omega
  have u2 : l.b.toNat < 4 := by omega
  have hsem : rawG l b = ⟨xa.lo + xb.lo, xa.hi + xb.hi⟩ := by unfold rawG; rw [h7, eA, eB]; rfl
  rw [hsem, h4]
  rw [h7]
  clear hsem eA eB hxa hxb oa ob p0 p1 q0 q1 hr hb ha hbb ho hw h4 h7 hl 
  go_enter Tryz.func73, Tryz.ntmps73
  go_wp2_with fail
  have f0 := fun o2 => F0.out (.cells #[.int .i64 3, .int .i64 l.to, .int .i64 l.a, .int .i64 l.b] 42) o2
  have g0 := fun o2 o3 => cell_alloc_keep (o := o3) (f0 o2)
  have k0 := fun o2 o3 o4 => cell_alloc_keep (o := o4) (g0 o2 o3)
  have f1 := fun o2 => F1.out (.cells #[.int .i64 3, .int .i64 l.to, .int .i64 l.a, .int .i64 l.b] 42) o2
  have g1 := fun o2 o3 => cell_alloc_keep (o := o3) (f1 o2)
  have k1 := fun o2 o3 o4 => cell_alloc_keep (o := o4) (g1 o2 o3)
  have f2 := fun o2 => F2.out (.cells #[.int .i64 3, .int .i64 l.to, .int .i64 l.a, .int .i64 l.b] 42) o2
  have g2 := fun o2 o3 => cell_alloc_keep (o := o3) (f2 o2)
  have k2 := fun o2 o3 o4 => cell_alloc_keep (o := o4) (g2 o2 o3)
  have f3 := fun o2 => F3.out (.cells #[.int .i64 3, .int .i64 l.to, .int .i64 l.a, .int .i64 l.b] 42) o2
  have g3 := fun o2 o3 => cell_alloc_keep (o := o3) (f3 o2)
  have k3 := fun o2 o3 o4 => cell_alloc_keep (o := o4) (g3 o2 o3)
  go_region
  all_goals clear f0 g0 k0 f1 g1 k1 f2 g2 k2 f3 g3 k3 F0 F1 F2 F3
  all_goals go_wp2_with fail
  · have HH : Hid ((fun W => W.heap[w.heap.size + 1]? = some (.cells #[.int .i64 0, .int .i64 0] 37 (0, 0)) ∧ W.heap[w.heap.size + 1 + 1]? = some (.cells #[.int .i64 (xa.lo + xb.lo), .int .i64 (xa.hi + xb.hi)] 37 (0, 0)) ∧ Below w.heap.size w W) (((((w.alloc (.cells #[.int .i64 3, .int .i64 l.to, .int .i64 l.a, .int .i64 l.b] 42)).alloc (.cells #[.int .i64 0, .int .i64 0] 37)).alloc (.cells #[.int .i64 (xa.lo + xb.lo), .int .i64 (xa.hi + xb.hi)] 37)).alloc (.cells #[.int .i64 xb.lo, .int .i64 xb.hi] 37)).drew.drew)) := Lib.hid ⟨hp_drew (hp_drew (hp_alloc (hp_alloc (hp_new (by simp))))), hp_drew (hp_drew (hp_alloc (hp_new (by simp)))), Below.drew (Below.drew (((((Below.refl w.heap.size w).alloc (Nat.le_refl _) _).alloc (by simp) _).alloc (by simp only [World.size_alloc]; omega) _).alloc (by simp only [World.size_alloc]; omega) _))⟩
    refine wp_region_held_drew (S := (fun W => W.heap[w.heap.size + 1 + 1]? = some (.cells #[.int .i64 (xa.lo + xb.lo), .int .i64 (xa.hi + xb.hi)] 37 (0, 0)))) (by kernel_rfl) ?_ (fun hHeld => ?_)
    · exact HH.out.2.1
    generalize World.drew (World.drew _) = Wd at *
    refine wpAnyH_take (i := 0) (oi := ?oiq1) (v := ?vq1) ?hiq1 (by kernel_rfl) (by kernel_rfl) (by kernel_rfl) ?hqq1 ?hyq1 hHeld ?restq1
    case hiq1 => exact rfl
    case hqq1 => exact fun _ _ _ h => h
    case hyq1 =>
      refine Or.inl ⟨by rfl, ?_⟩
      intro w hSw
      go_simp
      (try with_reducible rfl)
    try simp only [Act.put, List.getElem_toArray, List.getElem_cons_succ, List.getElem_cons_zero, List.setIfInBounds_toArray, List.set_cons_zero, List.set_cons_succ]
    refine wpAnyH_take (i := 1) (oi := ?oiq2) (v := (.int .i64 (xa.lo + xb.lo))) ?hiq2 (by kernel_rfl) (by kernel_rfl) (by kernel_rfl) ?hqq2 ?hyq2 hHeld ?restq2
    case hiq2 => exact rfl
    case hqq2 => exact fun _ _ _ h => h
    case hyq2 =>
      refine Or.inl ⟨by rfl, ?_⟩
      intro w hSw
      have z := hp_cell hSw (j := 0) (by rfl)
      go_simp
      (try with_reducible rfl)
    try simp only [Act.put, List.getElem_toArray, List.getElem_cons_succ, List.getElem_cons_zero, List.setIfInBounds_toArray, List.set_cons_zero, List.set_cons_succ]
    refine wpAnyH_take (i := 3) (oi := ?oiq3) (v := ?vq3) ?hiq3 (by kernel_rfl) (by kernel_rfl) (by kernel_rfl) ?hqq3 ?hyq3 hHeld ?restq3
    case hiq3 => exact rfl
    case hqq3 => exact fun _ _ _ h => h
    case hyq3 =>
      refine Or.inl ⟨by rfl, ?_⟩
      intro w hSw
      go_simp
      (try with_reducible rfl)
    try simp only [Act.put, List.getElem_toArray, List.getElem_cons_succ, List.getElem_cons_zero, List.setIfInBounds_toArray, List.set_cons_zero, List.set_cons_succ]
    refine wpAnyH_take (i := 4) (oi := ?oiq4) (v := (.int .i64 (xa.hi + xb.hi))) ?hiq4 (by kernel_rfl) (by kernel_rfl) (by kernel_rfl) ?hqq4 ?hyq4 hHeld ?restq4
    case hiq4 => exact rfl
    case hqq4 => exact fun _ _ _ h => h
    case hyq4 =>
      refine Or.inl ⟨by rfl, ?_⟩
      intro w hSw
      have z := hp_cell hSw (j := 1) (by rfl)
      go_simp
      (try with_reducible rfl)
    try simp only [Act.put, List.getElem_toArray, List.getElem_cons_succ, List.getElem_cons_zero, List.setIfInBounds_toArray, List.set_cons_zero, List.set_cons_succ]
    refine wpAnyH_ready (rs := [2]) (by kernel_rfl) (by simp) ?_
    refine AllReadyH.cons (o := ?or8_2) ?hr8_2 ?kr8_2 AllReadyH.nil
    case hr8_2 => exact rfl
    case kr8_2 =>
      intro K hK
      go_simp
      refine (rCut_any _ _).mono ?_
      rintro e w9 ⟨rfl, rfl⟩
      refine hK.out _ _ HH.out.2.1 (fun hHeld => ?_)
      clear hK K
      try simp only [Act.put, List.getElem_toArray, List.getElem_cons_succ, List.getElem_cons_zero, List.setIfInBounds_toArray, List.set_cons_zero, List.set_cons_succ]
      refine wpAnyH_ready (rs := [5]) (by kernel_rfl) (by simp) ?_
      refine AllReadyH.cons (o := ?or7_5) ?hr7_5 ?kr7_5 AllReadyH.nil
      case hr7_5 => exact rfl
      case kr7_5 =>
        intro K hK
        go_simp
        refine (rCut_any _ _).mono ?_
        rintro e w9 ⟨rfl, rfl⟩
        refine hK.out _ _ HH.out.2.1 (fun hHeld => ?_)
        clear hK K
        try simp only [Act.put, List.getElem_toArray, List.getElem_cons_succ, List.getElem_cons_zero, List.setIfInBounds_toArray, List.set_cons_zero, List.set_cons_succ]
        refine wpAnyH_take (i := 6) (oi := ?oiq5) (v := ?vq5) ?hiq5 (by kernel_rfl) (by kernel_rfl) (by kernel_rfl) ?hqq5 ?hyq5 hHeld ?restq5
        case hiq5 => exact rfl
        case hqq5 => exact fun _ _ _ h => h
        case hyq5 =>
          refine Or.inl ⟨by rfl, ?_⟩
          intro w hSw
          go_simp
          (try with_reducible rfl)
        try simp only [Act.put, List.getElem_toArray, List.getElem_cons_succ, List.getElem_cons_zero, List.setIfInBounds_toArray, List.set_cons_zero, List.set_cons_succ]
        refine wpAnyH_ready (rs := [7]) (by kernel_rfl) (by simp) ?_
        refine AllReadyH.cons (o := ?or6_7) ?hr6_7 ?kr6_7 AllReadyH.nil
        case hr6_7 => exact rfl
        case kr6_7 =>
          intro K hK
          refine wp_store_row 37 (.tmp 4) (.tmp 85) rfl (w.heap.size + 1) _ rfl rfl 37 _ HH.out.1 (by kernel_rfl) rfl (two1 _ _) ?_
          refine hK.out _ _ (hp_row HH.out.2.1 (by omega) _) (fun hHeld => ?_)
          clear hK K
          try simp only [Act.put, List.getElem_toArray, List.getElem_cons_succ, List.getElem_cons_zero, List.setIfInBounds_toArray, List.set_cons_zero, List.set_cons_succ]
          refine wpAnyH_done (by kernel_rfl) ?_ _
          clear hHeld
          go_wp2_with fail
          exact bodyPost_ret (results_cell_row (p := 4) (ty := 37) rfl _ _ (w.heap.size + 1) 37 _ (0, 0) _ (by rfl) (hp_row_same HH.out.1 _) Tryz.underlying37 rfl (by kernel_rfl)) rfl ⟨rfl, below_setRow HH.out.2.2 (by omega) _⟩
  · have HH : Hid ((fun W => W.heap[w.heap.size + 1]? = some (.cells #[.int .i64 0, .int .i64 0] 37 (0, 0)) ∧ W.heap[w.heap.size + 1 + 1 + 1]? = some (.cells #[.int .i64 (xa.lo + xb.lo), .int .i64 (xa.hi + xb.hi)] 37 (0, 0)) ∧ Below w.heap.size w W) (((((w.alloc (.cells #[.int .i64 3, .int .i64 l.to, .int .i64 l.a, .int .i64 l.b] 42)).alloc (.cells #[.int .i64 0, .int .i64 0] 37)).alloc (.cells #[.int .i64 xb.lo, .int .i64 xb.hi] 37)).alloc (.cells #[.int .i64 (xa.lo + xb.lo), .int .i64 (xa.hi + xb.hi)] 37)).drew.drew)) := Lib.hid ⟨hp_drew (hp_drew (hp_alloc (hp_alloc (hp_new (by simp))))), hp_drew (hp_drew (hp_new (by simp))), Below.drew (Below.drew (((((Below.refl w.heap.size w).alloc (Nat.le_refl _) _).alloc (by simp) _).alloc (by simp only [World.size_alloc]; omega) _).alloc (by simp only [World.size_alloc]; omega) _))⟩
    refine wp_region_held_drew (S := (fun W => W.heap[w.heap.size + 1 + 1 + 1]? = some (.cells #[.int .i64 (xa.lo + xb.lo), .int .i64 (xa.hi + xb.hi)] 37 (0, 0)))) (by kernel_rfl) ?_ (fun hHeld => ?_)
    · exact HH.out.2.1
    generalize World.drew (World.drew _) = Wd at *
    refine wpAnyH_take (i := 0) (oi := ?oiq9) (v := ?vq9) ?hiq9 (by kernel_rfl) (by kernel_rfl) (by kernel_rfl) ?hqq9 ?hyq9 hHeld ?restq9
    case hiq9 => exact rfl
    case hqq9 => exact fun _ _ _ h => h
    case hyq9 =>
      refine Or.inl ⟨by rfl, ?_⟩
      intro w hSw
      go_simp
      (try with_reducible rfl)
    try simp only [Act.put, List.getElem_toArray, List.getElem_cons_succ, List.getElem_cons_zero, List.setIfInBounds_toArray, List.set_cons_zero, List.set_cons_succ]
    refine wpAnyH_take (i := 1) (oi := ?oiq10) (v := (.int .i64 (xa.lo + xb.lo))) ?hiq10 (by kernel_rfl) (by kernel_rfl) (by kernel_rfl) ?hqq10 ?hyq10 hHeld ?restq10
    case hiq10 => exact rfl
    case hqq10 => exact fun _ _ _ h => h
    case hyq10 =>
      refine Or.inl ⟨by rfl, ?_⟩
      intro w hSw
      have z := hp_cell hSw (j := 0) (by rfl)
      go_simp
      (try with_reducible rfl)
    try simp only [Act.put, List.getElem_toArray, List.getElem_cons_succ, List.getElem_cons_zero, List.setIfInBounds_toArray, List.set_cons_zero, List.set_cons_succ]
    refine wpAnyH_take (i := 3) (oi := ?oiq11) (v := ?vq11) ?hiq11 (by kernel_rfl) (by kernel_rfl) (by kernel_rfl) ?hqq11 ?hyq11 hHeld ?restq11
    case hiq11 => exact rfl
    case hqq11 => exact fun _ _ _ h => h
    case hyq11 =>
      refine Or.inl ⟨by rfl, ?_⟩
      intro w hSw
      go_simp
      (try with_reducible rfl)
    try simp only [Act.put, List.getElem_toArray, List.getElem_cons_succ, List.getElem_cons_zero, List.setIfInBounds_toArray, List.set_cons_zero, List.set_cons_succ]
    refine wpAnyH_take (i := 4) (oi := ?oiq12) (v := (.int .i64 (xa.hi + xb.hi))) ?hiq12 (by kernel_rfl) (by kernel_rfl) (by kernel_rfl) ?hqq12 ?hyq12 hHeld ?restq12
    case hiq12 => exact rfl
    case hqq12 => exact fun _ _ _ h => h
    case hyq12 =>
      refine Or.inl ⟨by rfl, ?_⟩
      intro w hSw
      have z := hp_cell hSw (j := 1) (by rfl)
      go_simp
      (try with_reducible rfl)
    try simp only [Act.put, List.getElem_toArray, List.getElem_cons_succ, List.getElem_cons_zero, List.setIfInBounds_toArray, List.set_cons_zero, List.set_cons_succ]
    refine wpAnyH_ready (rs := [2]) (by kernel_rfl) (by simp) ?_
    refine AllReadyH.cons (o := ?or16_2) ?hr16_2 ?kr16_2 AllReadyH.nil
    case hr16_2 => exact rfl
    case kr16_2 =>
      intro K hK
      go_simp
      refine (rCut_any _ _).mono ?_
      rintro e w9 ⟨rfl, rfl⟩
      refine hK.out _ _ HH.out.2.1 (fun hHeld => ?_)
      clear hK K
      try simp only [Act.put, List.getElem_toArray, List.getElem_cons_succ, List.getElem_cons_zero, List.setIfInBounds_toArray, List.set_cons_zero, List.set_cons_succ]
      refine wpAnyH_ready (rs := [5]) (by kernel_rfl) (by simp) ?_
      refine AllReadyH.cons (o := ?or15_5) ?hr15_5 ?kr15_5 AllReadyH.nil
      case hr15_5 => exact rfl
      case kr15_5 =>
        intro K hK
        go_simp
        refine (rCut_any _ _).mono ?_
        rintro e w9 ⟨rfl, rfl⟩
        refine hK.out _ _ HH.out.2.1 (fun hHeld => ?_)
        clear hK K
        try simp only [Act.put, List.getElem_toArray, List.getElem_cons_succ, List.getElem_cons_zero, List.setIfInBounds_toArray, List.set_cons_zero, List.set_cons_succ]
        refine wpAnyH_take (i := 6) (oi := ?oiq13) (v := ?vq13) ?hiq13 (by kernel_rfl) (by kernel_rfl) (by kernel_rfl) ?hqq13 ?hyq13 hHeld ?restq13
        case hiq13 => exact rfl
        case hqq13 => exact fun _ _ _ h => h
        case hyq13 =>
          refine Or.inl ⟨by rfl, ?_⟩
          intro w hSw
          go_simp
          (try with_reducible rfl)
        try simp only [Act.put, List.getElem_toArray, List.getElem_cons_succ, List.getElem_cons_zero, List.setIfInBounds_toArray, List.set_cons_zero, List.set_cons_succ]
        refine wpAnyH_ready (rs := [7]) (by kernel_rfl) (by simp) ?_
        refine AllReadyH.cons (o := ?or14_7) ?hr14_7 ?kr14_7 AllReadyH.nil
        case hr14_7 => exact rfl
        case kr14_7 =>
          intro K hK
          refine wp_store_row 37 (.tmp 4) (.tmp 85) rfl (w.heap.size + 1) _ rfl rfl 37 _ HH.out.1 (by kernel_rfl) rfl (two1 _ _) ?_
          refine hK.out _ _ (hp_row HH.out.2.1 (by omega) _) (fun hHeld => ?_)
          clear hK K
          try simp only [Act.put, List.getElem_toArray, List.getElem_cons_succ, List.getElem_cons_zero, List.setIfInBounds_toArray, List.set_cons_zero, List.set_cons_succ]
          refine wpAnyH_done (by kernel_rfl) ?_ _
          clear hHeld
          go_wp2_with fail
          exact bodyPost_ret (results_cell_row (p := 4) (ty := 37) rfl _ _ (w.heap.size + 1) 37 _ (0, 0) _ (by rfl) (hp_row_same HH.out.1 _) Tryz.underlying37 rfl (by kernel_rfl)) rfl ⟨rfl, below_setRow HH.out.2.2 (by omega) _⟩

set_option maxRecDepth 100000 in
set_option maxHeartbeats 8000000 in
theorem rwritten4 (a : Option Addr) (ca : Nat) (b : List Rg) (l : L) (w : World) (hr : RangesAt w a b) (hb : OkB b) (hl : isLn l = true) (hw : Tinker.wr l = true) (h7 : l.op = 4) :
    Calls Tryz.prog 73 #[lv l, .slice a b.length ca] w fun e w' => e = .returned (gv (cutG (rawG l b))) ∧ Below w.heap.size w w' := by
  have ha := isLn_a hl
  have hbb := isLn_b hl
  have ho := isLn_op hl
  have hw := wr_iff.1 hw
  have h4 := hb.l4
  unfold lv
  obtain ⟨a0, a3⟩ := ha (by omega)
  obtain ⟨b0, b3⟩ := hbb (by omega)
  obtain ⟨xa, hxa⟩ := get_of_lt (show l.a.toNat < b.length by rw [h4]; omega)
  obtain ⟨xb, hxb⟩ := get_of_lt (show l.b.toNat < b.length by rw [h4]; omega)
  have oa := hb.g a0 a3
  have ob := hb.g b0 b3
  have eA : gAt b l.a = xa := getD_of_get hxa
  have eB : gAt b l.b = xb := getD_of_get hxb
  rw [eA] at oa
  rw [eB] at ob
  obtain ⟨⟨_, _⟩, ⟨_, _⟩, _⟩ := okG_iff.1 oa
  obtain ⟨⟨_, _⟩, ⟨_, _⟩, _⟩ := okG_iff.1 ob
  obtain ⟨g, off, ya, rfl, hg, hya, p0, p1⟩ := hr.at_ (show l.a.toNat < b.length by rw [h4]; omega)
  rw [hxa] at hya
  injection hya with hya
  subst hya
  obtain ⟨g', off', yb, hgg, _, hyb, q0, q1⟩ := hr.at_ (show l.b.toNat < b.length by rw [h4]; omega)
  injection hgg with hgg
  injection hgg with e1 e2
  subst e1 e2
  rw [hxb] at hyb
  injection hyb with hyb
  subst hyb
  have F0 := Lib.hid (fun o1 o2 => cell_alloc_keep (o := o2) (cell_alloc_keep (o := o1) p0))
  have F1 := Lib.hid (fun o1 o2 => cell_alloc_keep (o := o2) (cell_alloc_keep (o := o1) p1))
  have F2 := Lib.hid (fun o1 o2 => cell_alloc_keep (o := o2) (cell_alloc_keep (o := o1) q0))
  have F3 := Lib.hid (fun o1 o2 => cell_alloc_keep (o := o2) (cell_alloc_keep (o := o1) q1))
  have t1 : l.a < 4 := by omega
  have t2 : l.b < 4 := by omega
  have u1 : l.a.toNat < 4 := by omega
  have u2 : l.b.toNat < 4 := by omega
  have hsem : rawG l b = ⟨xa.lo - xb.hi, xa.hi - xb.lo⟩ := by unfold rawG; rw [h7, eA, eB]; rfl
  rw [hsem, h4]
  rw [h7]
  clear hsem eA eB hxa hxb oa ob p0 p1 q0 q1 hr hb ha hbb ho hw h4 h7 hl 
  go_enter Tryz.func73, Tryz.ntmps73
  go_wp2_with fail
  have f0 := fun o2 => F0.out (.cells #[.int .i64 4, .int .i64 l.to, .int .i64 l.a, .int .i64 l.b] 42) o2
  have g0 := fun o2 o3 => cell_alloc_keep (o := o3) (f0 o2)
  have k0 := fun o2 o3 o4 => cell_alloc_keep (o := o4) (g0 o2 o3)
  have f1 := fun o2 => F1.out (.cells #[.int .i64 4, .int .i64 l.to, .int .i64 l.a, .int .i64 l.b] 42) o2
  have g1 := fun o2 o3 => cell_alloc_keep (o := o3) (f1 o2)
  have k1 := fun o2 o3 o4 => cell_alloc_keep (o := o4) (g1 o2 o3)
  have f2 := fun o2 => F2.out (.cells #[.int .i64 4, .int .i64 l.to, .int .i64 l.a, .int .i64 l.b] 42) o2
  have g2 := fun o2 o3 => cell_alloc_keep (o := o3) (f2 o2)
  have k2 := fun o2 o3 o4 => cell_alloc_keep (o := o4) (g2 o2 o3)
  have f3 := fun o2 => F3.out (.cells #[.int .i64 4, .int .i64 l.to, .int .i64 l.a, .int .i64 l.b] 42) o2
  have g3 := fun o2 o3 => cell_alloc_keep (o := o3) (f3 o2)
  have k3 := fun o2 o3 o4 => cell_alloc_keep (o := o4) (g3 o2 o3)
  go_region
  all_goals clear f0 g0 k0 f1 g1 k1 f2 g2 k2 f3 g3 k3 F0 F1 F2 F3
  all_goals go_wp2_with fail
  · have HH : Hid ((fun W => W.heap[w.heap.size + 1]? = some (.cells #[.int .i64 0, .int .i64 0] 37 (0, 0)) ∧ W.heap[w.heap.size + 1 + 1]? = some (.cells #[.int .i64 (xa.lo - xb.hi), .int .i64 (xa.hi - xb.lo)] 37 (0, 0)) ∧ Below w.heap.size w W) (((((w.alloc (.cells #[.int .i64 4, .int .i64 l.to, .int .i64 l.a, .int .i64 l.b] 42)).alloc (.cells #[.int .i64 0, .int .i64 0] 37)).alloc (.cells #[.int .i64 (xa.lo - xb.hi), .int .i64 (xa.hi - xb.lo)] 37)).alloc (.cells #[.int .i64 xb.lo, .int .i64 xb.hi] 37)).drew.drew)) := Lib.hid ⟨hp_drew (hp_drew (hp_alloc (hp_alloc (hp_new (by simp))))), hp_drew (hp_drew (hp_alloc (hp_new (by simp)))), Below.drew (Below.drew (((((Below.refl w.heap.size w).alloc (Nat.le_refl _) _).alloc (by simp) _).alloc (by simp only [World.size_alloc]; omega) _).alloc (by simp only [World.size_alloc]; omega) _))⟩
    refine wp_region_held_drew (S := (fun W => W.heap[w.heap.size + 1 + 1]? = some (.cells #[.int .i64 (xa.lo - xb.hi), .int .i64 (xa.hi - xb.lo)] 37 (0, 0)))) (by kernel_rfl) ?_ (fun hHeld => ?_)
    · exact HH.out.2.1
    generalize World.drew (World.drew _) = Wd at *
    refine wpAnyH_take (i := 0) (oi := ?oiq17) (v := ?vq17) ?hiq17 (by kernel_rfl) (by kernel_rfl) (by kernel_rfl) ?hqq17 ?hyq17 hHeld ?restq17
    case hiq17 => exact rfl
    case hqq17 => exact fun _ _ _ h => h
    case hyq17 =>
      refine Or.inl ⟨by rfl, ?_⟩
      intro w hSw
      go_simp
      (try with_reducible rfl)
    try simp only [Act.put, List.getElem_toArray, List.getElem_cons_succ, List.getElem_cons_zero, List.setIfInBounds_toArray, List.set_cons_zero, List.set_cons_succ]
    refine wpAnyH_take (i := 1) (oi := ?oiq18) (v := (.int .i64 (xa.lo - xb.hi))) ?hiq18 (by kernel_rfl) (by kernel_rfl) (by kernel_rfl) ?hqq18 ?hyq18 hHeld ?restq18
    case hiq18 => exact rfl
    case hqq18 => exact fun _ _ _ h => h
    case hyq18 =>
      refine Or.inl ⟨by rfl, ?_⟩
      intro w hSw
      have z := hp_cell hSw (j := 0) (by rfl)
      go_simp
      (try with_reducible rfl)
    try simp only [Act.put, List.getElem_toArray, List.getElem_cons_succ, List.getElem_cons_zero, List.setIfInBounds_toArray, List.set_cons_zero, List.set_cons_succ]
    refine wpAnyH_take (i := 3) (oi := ?oiq19) (v := ?vq19) ?hiq19 (by kernel_rfl) (by kernel_rfl) (by kernel_rfl) ?hqq19 ?hyq19 hHeld ?restq19
    case hiq19 => exact rfl
    case hqq19 => exact fun _ _ _ h => h
    case hyq19 =>
      refine Or.inl ⟨by rfl, ?_⟩
      intro w hSw
      go_simp
      (try with_reducible rfl)
    try simp only [Act.put, List.getElem_toArray, List.getElem_cons_succ, List.getElem_cons_zero, List.setIfInBounds_toArray, List.set_cons_zero, List.set_cons_succ]
    refine wpAnyH_take (i := 4) (oi := ?oiq20) (v := (.int .i64 (xa.hi - xb.lo))) ?hiq20 (by kernel_rfl) (by kernel_rfl) (by kernel_rfl) ?hqq20 ?hyq20 hHeld ?restq20
    case hiq20 => exact rfl
    case hqq20 => exact fun _ _ _ h => h
    case hyq20 =>
      refine Or.inl ⟨by rfl, ?_⟩
      intro w hSw
      have z := hp_cell hSw (j := 1) (by rfl)
      go_simp
      (try with_reducible rfl)
    try simp only [Act.put, List.getElem_toArray, List.getElem_cons_succ, List.getElem_cons_zero, List.setIfInBounds_toArray, List.set_cons_zero, List.set_cons_succ]
    refine wpAnyH_ready (rs := [2]) (by kernel_rfl) (by simp) ?_
    refine AllReadyH.cons (o := ?or24_2) ?hr24_2 ?kr24_2 AllReadyH.nil
    case hr24_2 => exact rfl
    case kr24_2 =>
      intro K hK
      go_simp
      refine (rCut_any _ _).mono ?_
      rintro e w9 ⟨rfl, rfl⟩
      refine hK.out _ _ HH.out.2.1 (fun hHeld => ?_)
      clear hK K
      try simp only [Act.put, List.getElem_toArray, List.getElem_cons_succ, List.getElem_cons_zero, List.setIfInBounds_toArray, List.set_cons_zero, List.set_cons_succ]
      refine wpAnyH_ready (rs := [5]) (by kernel_rfl) (by simp) ?_
      refine AllReadyH.cons (o := ?or23_5) ?hr23_5 ?kr23_5 AllReadyH.nil
      case hr23_5 => exact rfl
      case kr23_5 =>
        intro K hK
        go_simp
        refine (rCut_any _ _).mono ?_
        rintro e w9 ⟨rfl, rfl⟩
        refine hK.out _ _ HH.out.2.1 (fun hHeld => ?_)
        clear hK K
        try simp only [Act.put, List.getElem_toArray, List.getElem_cons_succ, List.getElem_cons_zero, List.setIfInBounds_toArray, List.set_cons_zero, List.set_cons_succ]
        refine wpAnyH_take (i := 6) (oi := ?oiq21) (v := ?vq21) ?hiq21 (by kernel_rfl) (by kernel_rfl) (by kernel_rfl) ?hqq21 ?hyq21 hHeld ?restq21
        case hiq21 => exact rfl
        case hqq21 => exact fun _ _ _ h => h
        case hyq21 =>
          refine Or.inl ⟨by rfl, ?_⟩
          intro w hSw
          go_simp
          (try with_reducible rfl)
        try simp only [Act.put, List.getElem_toArray, List.getElem_cons_succ, List.getElem_cons_zero, List.setIfInBounds_toArray, List.set_cons_zero, List.set_cons_succ]
        refine wpAnyH_ready (rs := [7]) (by kernel_rfl) (by simp) ?_
        refine AllReadyH.cons (o := ?or22_7) ?hr22_7 ?kr22_7 AllReadyH.nil
        case hr22_7 => exact rfl
        case kr22_7 =>
          intro K hK
          refine wp_store_row 37 (.tmp 4) (.tmp 85) rfl (w.heap.size + 1) _ rfl rfl 37 _ HH.out.1 (by kernel_rfl) rfl (two1 _ _) ?_
          refine hK.out _ _ (hp_row HH.out.2.1 (by omega) _) (fun hHeld => ?_)
          clear hK K
          try simp only [Act.put, List.getElem_toArray, List.getElem_cons_succ, List.getElem_cons_zero, List.setIfInBounds_toArray, List.set_cons_zero, List.set_cons_succ]
          refine wpAnyH_done (by kernel_rfl) ?_ _
          clear hHeld
          go_wp2_with fail
          exact bodyPost_ret (results_cell_row (p := 4) (ty := 37) rfl _ _ (w.heap.size + 1) 37 _ (0, 0) _ (by rfl) (hp_row_same HH.out.1 _) Tryz.underlying37 rfl (by kernel_rfl)) rfl ⟨rfl, below_setRow HH.out.2.2 (by omega) _⟩
  · have HH : Hid ((fun W => W.heap[w.heap.size + 1]? = some (.cells #[.int .i64 0, .int .i64 0] 37 (0, 0)) ∧ W.heap[w.heap.size + 1 + 1 + 1]? = some (.cells #[.int .i64 (xa.lo - xb.hi), .int .i64 (xa.hi - xb.lo)] 37 (0, 0)) ∧ Below w.heap.size w W) (((((w.alloc (.cells #[.int .i64 4, .int .i64 l.to, .int .i64 l.a, .int .i64 l.b] 42)).alloc (.cells #[.int .i64 0, .int .i64 0] 37)).alloc (.cells #[.int .i64 xb.lo, .int .i64 xb.hi] 37)).alloc (.cells #[.int .i64 (xa.lo - xb.hi), .int .i64 (xa.hi - xb.lo)] 37)).drew.drew)) := Lib.hid ⟨hp_drew (hp_drew (hp_alloc (hp_alloc (hp_new (by simp))))), hp_drew (hp_drew (hp_new (by simp))), Below.drew (Below.drew (((((Below.refl w.heap.size w).alloc (Nat.le_refl _) _).alloc (by simp) _).alloc (by simp only [World.size_alloc]; omega) _).alloc (by simp only [World.size_alloc]; omega) _))⟩
    refine wp_region_held_drew (S := (fun W => W.heap[w.heap.size + 1 + 1 + 1]? = some (.cells #[.int .i64 (xa.lo - xb.hi), .int .i64 (xa.hi - xb.lo)] 37 (0, 0)))) (by kernel_rfl) ?_ (fun hHeld => ?_)
    · exact HH.out.2.1
    generalize World.drew (World.drew _) = Wd at *
    refine wpAnyH_take (i := 0) (oi := ?oiq25) (v := ?vq25) ?hiq25 (by kernel_rfl) (by kernel_rfl) (by kernel_rfl) ?hqq25 ?hyq25 hHeld ?restq25
    case hiq25 => exact rfl
    case hqq25 => exact fun _ _ _ h => h
    case hyq25 =>
      refine Or.inl ⟨by rfl, ?_⟩
      intro w hSw
      go_simp
      (try with_reducible rfl)
    try simp only [Act.put, List.getElem_toArray, List.getElem_cons_succ, List.getElem_cons_zero, List.setIfInBounds_toArray, List.set_cons_zero, List.set_cons_succ]
    refine wpAnyH_take (i := 1) (oi := ?oiq26) (v := (.int .i64 (xa.lo - xb.hi))) ?hiq26 (by kernel_rfl) (by kernel_rfl) (by kernel_rfl) ?hqq26 ?hyq26 hHeld ?restq26
    case hiq26 => exact rfl
    case hqq26 => exact fun _ _ _ h => h
    case hyq26 =>
      refine Or.inl ⟨by rfl, ?_⟩
      intro w hSw
      have z := hp_cell hSw (j := 0) (by rfl)
      go_simp
      (try with_reducible rfl)
    try simp only [Act.put, List.getElem_toArray, List.getElem_cons_succ, List.getElem_cons_zero, List.setIfInBounds_toArray, List.set_cons_zero, List.set_cons_succ]
    refine wpAnyH_take (i := 3) (oi := ?oiq27) (v := ?vq27) ?hiq27 (by kernel_rfl) (by kernel_rfl) (by kernel_rfl) ?hqq27 ?hyq27 hHeld ?restq27
    case hiq27 => exact rfl
    case hqq27 => exact fun _ _ _ h => h
    case hyq27 =>
      refine Or.inl ⟨by rfl, ?_⟩
      intro w hSw
      go_simp
      (try with_reducible rfl)
    try simp only [Act.put, List.getElem_toArray, List.getElem_cons_succ, List.getElem_cons_zero, List.setIfInBounds_toArray, List.set_cons_zero, List.set_cons_succ]
    refine wpAnyH_take (i := 4) (oi := ?oiq28) (v := (.int .i64 (xa.hi - xb.lo))) ?hiq28 (by kernel_rfl) (by kernel_rfl) (by kernel_rfl) ?hqq28 ?hyq28 hHeld ?restq28
    case hiq28 => exact rfl
    case hqq28 => exact fun _ _ _ h => h
    case hyq28 =>
      refine Or.inl ⟨by rfl, ?_⟩
      intro w hSw
      have z := hp_cell hSw (j := 1) (by rfl)
      go_simp
      (try with_reducible rfl)
    try simp only [Act.put, List.getElem_toArray, List.getElem_cons_succ, List.getElem_cons_zero, List.setIfInBounds_toArray, List.set_cons_zero, List.set_cons_succ]
    refine wpAnyH_ready (rs := [2]) (by kernel_rfl) (by simp) ?_
    refine AllReadyH.cons (o := ?or32_2) ?hr32_2 ?kr32_2 AllReadyH.nil
    case hr32_2 => exact rfl
    case kr32_2 =>
      intro K hK
      go_simp
      refine (rCut_any _ _).mono ?_
      rintro e w9 ⟨rfl, rfl⟩
      refine hK.out _ _ HH.out.2.1 (fun hHeld => ?_)
      clear hK K
      try simp only [Act.put, List.getElem_toArray, List.getElem_cons_succ, List.getElem_cons_zero, List.setIfInBounds_toArray, List.set_cons_zero, List.set_cons_succ]
      refine wpAnyH_ready (rs := [5]) (by kernel_rfl) (by simp) ?_
      refine AllReadyH.cons (o := ?or31_5) ?hr31_5 ?kr31_5 AllReadyH.nil
      case hr31_5 => exact rfl
      case kr31_5 =>
        intro K hK
        go_simp
        refine (rCut_any _ _).mono ?_
        rintro e w9 ⟨rfl, rfl⟩
        refine hK.out _ _ HH.out.2.1 (fun hHeld => ?_)
        clear hK K
        try simp only [Act.put, List.getElem_toArray, List.getElem_cons_succ, List.getElem_cons_zero, List.setIfInBounds_toArray, List.set_cons_zero, List.set_cons_succ]
        refine wpAnyH_take (i := 6) (oi := ?oiq29) (v := ?vq29) ?hiq29 (by kernel_rfl) (by kernel_rfl) (by kernel_rfl) ?hqq29 ?hyq29 hHeld ?restq29
        case hiq29 => exact rfl
        case hqq29 => exact fun _ _ _ h => h
        case hyq29 =>
          refine Or.inl ⟨by rfl, ?_⟩
          intro w hSw
          go_simp
          (try with_reducible rfl)
        try simp only [Act.put, List.getElem_toArray, List.getElem_cons_succ, List.getElem_cons_zero, List.setIfInBounds_toArray, List.set_cons_zero, List.set_cons_succ]
        refine wpAnyH_ready (rs := [7]) (by kernel_rfl) (by simp) ?_
        refine AllReadyH.cons (o := ?or30_7) ?hr30_7 ?kr30_7 AllReadyH.nil
        case hr30_7 => exact rfl
        case kr30_7 =>
          intro K hK
          refine wp_store_row 37 (.tmp 4) (.tmp 85) rfl (w.heap.size + 1) _ rfl rfl 37 _ HH.out.1 (by kernel_rfl) rfl (two1 _ _) ?_
          refine hK.out _ _ (hp_row HH.out.2.1 (by omega) _) (fun hHeld => ?_)
          clear hK K
          try simp only [Act.put, List.getElem_toArray, List.getElem_cons_succ, List.getElem_cons_zero, List.setIfInBounds_toArray, List.set_cons_zero, List.set_cons_succ]
          refine wpAnyH_done (by kernel_rfl) ?_ _
          clear hHeld
          go_wp2_with fail
          exact bodyPost_ret (results_cell_row (p := 4) (ty := 37) rfl _ _ (w.heap.size + 1) 37 _ (0, 0) _ (by rfl) (hp_row_same HH.out.1 _) Tryz.underlying37 rfl (by kernel_rfl)) rfl ⟨rfl, below_setRow HH.out.2.2 (by omega) _⟩

end Go.Proofs.YtmpgaccpdglhkaaGreat
