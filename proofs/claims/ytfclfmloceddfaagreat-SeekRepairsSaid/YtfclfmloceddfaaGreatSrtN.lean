/- Several texts in one. -/
import Derived.Test.YtfclfmloceddfaaGreatPtS
import Derived.Test.YtfclfmloceddfaaGreatSkA
import Derived.Test.YtfclfmloceddfaaGreatKnownT
import Derived.Deep.RegionHeld
import Derived.Shelf.SlSortCmp.WholeK
import Derived.Shelf.SlGeneric
import Derived.Test.YtfclfmloceddfaaGreatCnL
/- The order of lines: compareLines of seek. -/
set_option linter.unusedVariables false
set_option linter.unusedSimpArgs false
namespace Go.Proofs.YtfclfmloceddfaaGreat
open Go.RowKit Go.Shelf Tinker
attribute [local go_sem] Oper.semAt_some
/-- What compareLines answers. -/
def cmpLn (l m : L) : Int := feL [cmpP l.op m.op, cmpP l.to m.to, cmpP l.a m.a, cmpP l.b m.b]

set_option maxRecDepth 100000 in
set_option maxHeartbeats 8000000 in
theorem compareLines_any (l m : L) (ww : World) : Calls Tryz.prog 112 #[lv l, lv m] ww fun e w' => e = .returned (.int .i64 (cmpLn l m)) ∧ Below ww.heap.size ww w' ∧ ww.drawn ≤ w'.drawn := by
  unfold lv cmpLn
  have Hc1 := Lib.hid (fun w => cmpP_any l.op m.op w)
  have Hc2 := Lib.hid (fun w => cmpP_any l.to m.to w)
  have Hc3 := Lib.hid (fun w => cmpP_any l.a m.a w)
  have Hc4 := Lib.hid (fun w => cmpP_any l.b m.b w)
  generalize cmpP l.op m.op = c1 at *
  generalize cmpP l.to m.to = c2 at *
  generalize cmpP l.a m.a = c3 at *
  generalize cmpP l.b m.b = c4 at *
  obtain ⟨W0, hW0⟩ : ∃ W, W = (ww.alloc (.cells (lV l) 42)).alloc (.cells (lV m) 42) := ⟨_, rfl⟩
  have hb : Below ww.heap.size ww W0 := by rw [hW0]; exact ((Below.refl _ _).alloc (Nat.le_refl _) _).alloc (by simp) _
  have h1 : W0.heap[ww.heap.size]? = some (.cells (lV l) 42 (0, 0)) := by rw [hW0]; exact hp_alloc (hp_new rfl)
  have h2 : W0.heap[ww.heap.size + 1]? = some (.cells (lV m) 42 (0, 0)) := by rw [hW0]; exact hp_new (by simp)
  have hs : W0.heap.size = ww.heap.size + 1 + 1 := by rw [hW0]; simp
  have hdr : W0.drawn = ww.drawn := by rw [hW0]; rfl
  obtain ⟨x0, x1, x2, x3⟩ := boxL_cells h1
  obtain ⟨y0, y1, y2, y3⟩ := boxL_cells h2
  have HBd := Lib.hid (show Below (ww.heap.size + 1 + 1) W0 W0.drew from by rw [← hs]; exact ⟨rfl, rfl, rfl, Nat.le_refl _, fun _ _ => rfl⟩)
  have HDr := Lib.hid (show ww.drawn ≤ W0.drew.drawn by rw [← hdr]; exact Nat.le_succ _)
  have HB0 := HBd
  have HBw := Lib.hid hb
  have HSz := Lib.hid hs
  clear hb h1 h2 hs hdr
  go_enter Tryz.func112, Tryz.ntmps112
  go_wp2_with fail
  unfold lV at hW0
  rw [← hW0]
  clear hW0
  rename_i Qb Kb hKb
  refine wp_region_held_drew (S := (fun W2 => Below (ww.heap.size + 1 + 1) W0 W2)) (by kernel_rfl) ?_ (fun hHeld => ?_)
  · exact HBd.out
  generalize W0.drew = Wd at *
  refine wpAnyH_take (i := 0) (oi := ?oiq1) (v := (.pointer (some ⟨ww.heap.size, 0, none⟩))) ?hiq1 (by kernel_rfl) (by kernel_rfl) (by kernel_rfl) ?hqq1 ?hyq1 hHeld ?restq1
  case hiq1 => exact rfl
  case hqq1 => exact fun _ _ _ h => h
  case hyq1 =>
    refine Or.inl ⟨by rfl, ?_⟩
    intro w hSw
    go_simp
    (try with_reducible rfl)
  try simp only [Act.put, List.getElem_toArray, List.getElem_cons_succ, List.getElem_cons_zero, List.setIfInBounds_toArray, List.set_cons_zero, List.set_cons_succ]
  refine wpAnyH_take (i := 1) (oi := ?oiq2) (v := (.int .i64 l.op)) ?hiq2 (by kernel_rfl) (by kernel_rfl) (by kernel_rfl) ?hqq2 ?hyq2 hHeld ?restq2
  case hiq2 => exact rfl
  case hqq2 => exact fun _ _ _ h => h
  case hyq2 =>
    refine Or.inl ⟨by rfl, ?_⟩
    intro w hSw
    have m2 := (hSw.cell (p := ⟨ww.heap.size, 0, none⟩) (by show ww.heap.size < ww.heap.size + 1 + 1; omega)).trans x0
    go_simp
    (try with_reducible rfl)
  try simp only [Act.put, List.getElem_toArray, List.getElem_cons_succ, List.getElem_cons_zero, List.setIfInBounds_toArray, List.set_cons_zero, List.set_cons_succ]
  refine wpAnyH_take (i := 2) (oi := ?oiq3) (v := (.pointer (some ⟨ww.heap.size + 1, 0, none⟩))) ?hiq3 (by kernel_rfl) (by kernel_rfl) (by kernel_rfl) ?hqq3 ?hyq3 hHeld ?restq3
  case hiq3 => exact rfl
  case hqq3 => exact fun _ _ _ h => h
  case hyq3 =>
    refine Or.inl ⟨by rfl, ?_⟩
    intro w hSw
    go_simp
    (try with_reducible rfl)
  try simp only [Act.put, List.getElem_toArray, List.getElem_cons_succ, List.getElem_cons_zero, List.setIfInBounds_toArray, List.set_cons_zero, List.set_cons_succ]
  refine wpAnyH_take (i := 3) (oi := ?oiq4) (v := (.int .i64 m.op)) ?hiq4 (by kernel_rfl) (by kernel_rfl) (by kernel_rfl) ?hqq4 ?hyq4 hHeld ?restq4
  case hiq4 => exact rfl
  case hqq4 => exact fun _ _ _ h => h
  case hyq4 =>
    refine Or.inl ⟨by rfl, ?_⟩
    intro w hSw
    have m2 := (hSw.cell (p := ⟨ww.heap.size + 1, 0, none⟩) (by show ww.heap.size + 1 < ww.heap.size + 1 + 1; omega)).trans y0
    go_simp
    (try with_reducible rfl)
  try simp only [Act.put, List.getElem_toArray, List.getElem_cons_succ, List.getElem_cons_zero, List.setIfInBounds_toArray, List.set_cons_zero, List.set_cons_succ]
  refine wpAnyH_take (i := 5) (oi := ?oiq5) (v := (.pointer (some ⟨ww.heap.size, 1, none⟩))) ?hiq5 (by kernel_rfl) (by kernel_rfl) (by kernel_rfl) ?hqq5 ?hyq5 hHeld ?restq5
  case hiq5 => exact rfl
  case hqq5 => exact fun _ _ _ h => h
  case hyq5 =>
    refine Or.inl ⟨by rfl, ?_⟩
    intro w hSw
    go_simp
    (try with_reducible rfl)
  try simp only [Act.put, List.getElem_toArray, List.getElem_cons_succ, List.getElem_cons_zero, List.setIfInBounds_toArray, List.set_cons_zero, List.set_cons_succ]
  refine wpAnyH_take (i := 6) (oi := ?oiq6) (v := (.int .i64 l.to)) ?hiq6 (by kernel_rfl) (by kernel_rfl) (by kernel_rfl) ?hqq6 ?hyq6 hHeld ?restq6
  case hiq6 => exact rfl
  case hqq6 => exact fun _ _ _ h => h
  case hyq6 =>
    refine Or.inl ⟨by rfl, ?_⟩
    intro w hSw
    have m2 := (hSw.cell (p := ⟨ww.heap.size, 1, none⟩) (by show ww.heap.size < ww.heap.size + 1 + 1; omega)).trans x1
    go_simp
    (try with_reducible rfl)
  try simp only [Act.put, List.getElem_toArray, List.getElem_cons_succ, List.getElem_cons_zero, List.setIfInBounds_toArray, List.set_cons_zero, List.set_cons_succ]
  refine wpAnyH_take (i := 7) (oi := ?oiq7) (v := (.pointer (some ⟨ww.heap.size + 1, 1, none⟩))) ?hiq7 (by kernel_rfl) (by kernel_rfl) (by kernel_rfl) ?hqq7 ?hyq7 hHeld ?restq7
  case hiq7 => exact rfl
  case hqq7 => exact fun _ _ _ h => h
  case hyq7 =>
    refine Or.inl ⟨by rfl, ?_⟩
    intro w hSw
    go_simp
    (try with_reducible rfl)
  try simp only [Act.put, List.getElem_toArray, List.getElem_cons_succ, List.getElem_cons_zero, List.setIfInBounds_toArray, List.set_cons_zero, List.set_cons_succ]
  refine wpAnyH_take (i := 8) (oi := ?oiq8) (v := (.int .i64 m.to)) ?hiq8 (by kernel_rfl) (by kernel_rfl) (by kernel_rfl) ?hqq8 ?hyq8 hHeld ?restq8
  case hiq8 => exact rfl
  case hqq8 => exact fun _ _ _ h => h
  case hyq8 =>
    refine Or.inl ⟨by rfl, ?_⟩
    intro w hSw
    have m2 := (hSw.cell (p := ⟨ww.heap.size + 1, 1, none⟩) (by show ww.heap.size + 1 < ww.heap.size + 1 + 1; omega)).trans y1
    go_simp
    (try with_reducible rfl)
  try simp only [Act.put, List.getElem_toArray, List.getElem_cons_succ, List.getElem_cons_zero, List.setIfInBounds_toArray, List.set_cons_zero, List.set_cons_succ]
  refine wpAnyH_take (i := 10) (oi := ?oiq9) (v := (.pointer (some ⟨ww.heap.size, 2, none⟩))) ?hiq9 (by kernel_rfl) (by kernel_rfl) (by kernel_rfl) ?hqq9 ?hyq9 hHeld ?restq9
  case hiq9 => exact rfl
  case hqq9 => exact fun _ _ _ h => h
  case hyq9 =>
    refine Or.inl ⟨by rfl, ?_⟩
    intro w hSw
    go_simp
    (try with_reducible rfl)
  try simp only [Act.put, List.getElem_toArray, List.getElem_cons_succ, List.getElem_cons_zero, List.setIfInBounds_toArray, List.set_cons_zero, List.set_cons_succ]
  refine wpAnyH_take (i := 11) (oi := ?oiq10) (v := (.int .i64 l.a)) ?hiq10 (by kernel_rfl) (by kernel_rfl) (by kernel_rfl) ?hqq10 ?hyq10 hHeld ?restq10
  case hiq10 => exact rfl
  case hqq10 => exact fun _ _ _ h => h
  case hyq10 =>
    refine Or.inl ⟨by rfl, ?_⟩
    intro w hSw
    have m2 := (hSw.cell (p := ⟨ww.heap.size, 2, none⟩) (by show ww.heap.size < ww.heap.size + 1 + 1; omega)).trans x2
    go_simp
    (try with_reducible rfl)
  try simp only [Act.put, List.getElem_toArray, List.getElem_cons_succ, List.getElem_cons_zero, List.setIfInBounds_toArray, List.set_cons_zero, List.set_cons_succ]
  refine wpAnyH_take (i := 12) (oi := ?oiq11) (v := (.pointer (some ⟨ww.heap.size + 1, 2, none⟩))) ?hiq11 (by kernel_rfl) (by kernel_rfl) (by kernel_rfl) ?hqq11 ?hyq11 hHeld ?restq11
  case hiq11 => exact rfl
  case hqq11 => exact fun _ _ _ h => h
  case hyq11 =>
    refine Or.inl ⟨by rfl, ?_⟩
    intro w hSw
    go_simp
    (try with_reducible rfl)
  try simp only [Act.put, List.getElem_toArray, List.getElem_cons_succ, List.getElem_cons_zero, List.setIfInBounds_toArray, List.set_cons_zero, List.set_cons_succ]
  refine wpAnyH_take (i := 13) (oi := ?oiq12) (v := (.int .i64 m.a)) ?hiq12 (by kernel_rfl) (by kernel_rfl) (by kernel_rfl) ?hqq12 ?hyq12 hHeld ?restq12
  case hiq12 => exact rfl
  case hqq12 => exact fun _ _ _ h => h
  case hyq12 =>
    refine Or.inl ⟨by rfl, ?_⟩
    intro w hSw
    have m2 := (hSw.cell (p := ⟨ww.heap.size + 1, 2, none⟩) (by show ww.heap.size + 1 < ww.heap.size + 1 + 1; omega)).trans y2
    go_simp
    (try with_reducible rfl)
  try simp only [Act.put, List.getElem_toArray, List.getElem_cons_succ, List.getElem_cons_zero, List.setIfInBounds_toArray, List.set_cons_zero, List.set_cons_succ]
  refine wpAnyH_take (i := 15) (oi := ?oiq13) (v := (.pointer (some ⟨ww.heap.size, 3, none⟩))) ?hiq13 (by kernel_rfl) (by kernel_rfl) (by kernel_rfl) ?hqq13 ?hyq13 hHeld ?restq13
  case hiq13 => exact rfl
  case hqq13 => exact fun _ _ _ h => h
  case hyq13 =>
    refine Or.inl ⟨by rfl, ?_⟩
    intro w hSw
    go_simp
    (try with_reducible rfl)
  try simp only [Act.put, List.getElem_toArray, List.getElem_cons_succ, List.getElem_cons_zero, List.setIfInBounds_toArray, List.set_cons_zero, List.set_cons_succ]
  refine wpAnyH_take (i := 16) (oi := ?oiq14) (v := (.int .i64 l.b)) ?hiq14 (by kernel_rfl) (by kernel_rfl) (by kernel_rfl) ?hqq14 ?hyq14 hHeld ?restq14
  case hiq14 => exact rfl
  case hqq14 => exact fun _ _ _ h => h
  case hyq14 =>
    refine Or.inl ⟨by rfl, ?_⟩
    intro w hSw
    have m2 := (hSw.cell (p := ⟨ww.heap.size, 3, none⟩) (by show ww.heap.size < ww.heap.size + 1 + 1; omega)).trans x3
    go_simp
    (try with_reducible rfl)
  try simp only [Act.put, List.getElem_toArray, List.getElem_cons_succ, List.getElem_cons_zero, List.setIfInBounds_toArray, List.set_cons_zero, List.set_cons_succ]
  refine wpAnyH_take (i := 17) (oi := ?oiq15) (v := (.pointer (some ⟨ww.heap.size + 1, 3, none⟩))) ?hiq15 (by kernel_rfl) (by kernel_rfl) (by kernel_rfl) ?hqq15 ?hyq15 hHeld ?restq15
  case hiq15 => exact rfl
  case hqq15 => exact fun _ _ _ h => h
  case hyq15 =>
    refine Or.inl ⟨by rfl, ?_⟩
    intro w hSw
    go_simp
    (try with_reducible rfl)
  try simp only [Act.put, List.getElem_toArray, List.getElem_cons_succ, List.getElem_cons_zero, List.setIfInBounds_toArray, List.set_cons_zero, List.set_cons_succ]
  refine wpAnyH_take (i := 18) (oi := ?oiq16) (v := (.int .i64 m.b)) ?hiq16 (by kernel_rfl) (by kernel_rfl) (by kernel_rfl) ?hqq16 ?hyq16 hHeld ?restq16
  case hiq16 => exact rfl
  case hqq16 => exact fun _ _ _ h => h
  case hyq16 =>
    refine Or.inl ⟨by rfl, ?_⟩
    intro w hSw
    have m2 := (hSw.cell (p := ⟨ww.heap.size + 1, 3, none⟩) (by show ww.heap.size + 1 < ww.heap.size + 1 + 1; omega)).trans y3
    go_simp
    (try with_reducible rfl)
  try simp only [Act.put, List.getElem_toArray, List.getElem_cons_succ, List.getElem_cons_zero, List.setIfInBounds_toArray, List.set_cons_zero, List.set_cons_succ]
  refine wpAnyH_ready (rs := [4]) (by kernel_rfl) (by simp) ?_
  refine AllReadyH.cons (o := ?or23_4) ?hr23_4 ?kr23_4 AllReadyH.nil
  case hr23_4 => exact rfl
  case kr23_4 =>
    intro K hK
    go_simp
    refine (Hc1.out _).mono ?_
    rintro e w3 ⟨rfl, rfl⟩
    refine hK.out _ _ HB0.out (fun hHeld => ?_)
    clear hK K
    try simp only [Act.put, List.getElem_toArray, List.getElem_cons_succ, List.getElem_cons_zero, List.setIfInBounds_toArray, List.set_cons_zero, List.set_cons_succ]
    refine wpAnyH_ready (rs := [9]) (by kernel_rfl) (by simp) ?_
    refine AllReadyH.cons (o := ?or22_9) ?hr22_9 ?kr22_9 AllReadyH.nil
    case hr22_9 => exact rfl
    case kr22_9 =>
      intro K hK
      go_simp
      refine (Hc2.out _).mono ?_
      rintro e w3 ⟨rfl, rfl⟩
      refine hK.out _ _ HB0.out (fun hHeld => ?_)
      clear hK K
      try simp only [Act.put, List.getElem_toArray, List.getElem_cons_succ, List.getElem_cons_zero, List.setIfInBounds_toArray, List.set_cons_zero, List.set_cons_succ]
      refine wpAnyH_ready (rs := [14]) (by kernel_rfl) (by simp) ?_
      refine AllReadyH.cons (o := ?or21_14) ?hr21_14 ?kr21_14 AllReadyH.nil
      case hr21_14 => exact rfl
      case kr21_14 =>
        intro K hK
        go_simp
        refine (Hc3.out _).mono ?_
        rintro e w3 ⟨rfl, rfl⟩
        refine hK.out _ _ HB0.out (fun hHeld => ?_)
        clear hK K
        try simp only [Act.put, List.getElem_toArray, List.getElem_cons_succ, List.getElem_cons_zero, List.setIfInBounds_toArray, List.set_cons_zero, List.set_cons_succ]
        refine wpAnyH_ready (rs := [19]) (by kernel_rfl) (by simp) ?_
        refine AllReadyH.cons (o := ?or20_19) ?hr20_19 ?kr20_19 AllReadyH.nil
        case hr20_19 => exact rfl
        case kr20_19 =>
          intro K hK
          go_simp
          refine (Hc4.out _).mono ?_
          rintro e w3 ⟨rfl, rfl⟩
          refine hK.out _ _ HB0.out (fun hHeld => ?_)
          clear hK K
          try simp only [Act.put, List.getElem_toArray, List.getElem_cons_succ, List.getElem_cons_zero, List.setIfInBounds_toArray, List.set_cons_zero, List.set_cons_succ]
          refine wpAnyH_ready (rs := [20]) (by kernel_rfl) (by simp) ?_
          refine AllReadyH.cons (o := ?or19_20) ?hr19_20 ?kr19_20 AllReadyH.nil
          case hr19_20 => exact rfl
          case kr19_20 =>
            intro K hK
            go_simp
            have HB1 := Lib.hid (HB0.out.alloc (by have := HB0.out.size; have := HSz.out; omega) (.cells #[.int .i64 c1, .int .i64 c2, .int .i64 c3, .int .i64 c4] 3))
            refine hK.out _ _ HB1.out (fun hHeld => ?_)
            clear hK K
            try simp only [Act.put, List.getElem_toArray, List.getElem_cons_succ, List.getElem_cons_zero, List.setIfInBounds_toArray, List.set_cons_zero, List.set_cons_succ]
            refine wpAnyH_ready (rs := [21]) (by kernel_rfl) (by simp) ?_
            refine AllReadyH.cons (o := ?or18_21) ?hr18_21 ?kr18_21 AllReadyH.nil
            case hr18_21 => exact rfl
            case kr18_21 =>
              intro K hK
              go_simp
              refine (cmpOr_any _ 4 [c1, c2, c3, c4] _ (ints_lit' (by simp)) (by simp)).mono ?_
              rintro e w3 ⟨rfl, rfl⟩
              refine hK.out _ _ HB1.out (fun hHeld => ?_)
              clear hK K
              try simp only [Act.put, List.getElem_toArray, List.getElem_cons_succ, List.getElem_cons_zero, List.setIfInBounds_toArray, List.set_cons_zero, List.set_cons_succ]
              refine wpAnyH_take (i := 22) (oi := ?oiq17) (v := ?vq17) ?hiq17 (by kernel_rfl) (by kernel_rfl) (by kernel_rfl) ?hqq17 ?hyq17 hHeld ?restq17
              case hiq17 => exact rfl
              case hqq17 => exact fun _ _ _ h => h
              case hyq17 =>
                refine Or.inl ⟨by rfl, ?_⟩
                intro w hSw
                go_simp
                (try with_reducible rfl)
              try simp only [Act.put, List.getElem_toArray, List.getElem_cons_succ, List.getElem_cons_zero, List.setIfInBounds_toArray, List.set_cons_zero, List.set_cons_succ]
              refine wpAnyH_done (by kernel_rfl) ?_ _
              clear hHeld
              refine hKb _ _ ?_
              go_wp2_with fail
              go_ret
              exact ⟨rfl, HBw.out.trans (HB1.out.mono (by omega)), HDr.out⟩

end Go.Proofs.YtfclfmloceddfaaGreat

/- The sort of lines: where the shelf's contract of slices.SortFunc lies at this program. -/
set_option linter.unusedVariables false
set_option linter.unusedSimpArgs false
namespace Go.Proofs.YtfclfmloceddfaaGreat
open Go.Shelf
def sortLines_ren : Go.Shelf.Ren := ⟨fun | 6 => 111 | 15 => 98 | 14 => 134 | 28 => 130 | 29 => 131 | 20 => 145 | 21 => 146 | 22 => 147 | 23 => 148 | 24 => 149 | 25 => 150 | 26 => 151 | 27 => 152 | 46 => 158 | 47 => 141 | 48 => 142 | 49 => 159 | 50 => 160 | 57 => 163 | n => n, fun | 22 => 22 | 24 => 42 | 25 => 80 | 3 => 3 | 39 => 128 | 0 => 0 | 53 => 144 | 55 => 146 | 4 => 4 | 46 => 137 | 45 => 136 | 50 => 141 | 5 => 5 | 9 => 9 | 66 => 163 | 70 => 167 | 76 => 179 | 77 => 180 | n => n, fun | n => n⟩
theorem sortLines : Go.Proofs.SlLaysF0.n6 Tryz.prog sortLines_ren := {
  mixed := by kernel_rfl
  f6 := ⟨Tryz.f111.name, by decide, Tryz.func111.trans (congrArg some (by kernel_rfl))⟩
  f14 := ⟨Tryz.f134.name, by decide, Tryz.func134.trans (congrArg some (by kernel_rfl))⟩
  f15 := Tryz.func98.trans (congrArg some (by kernel_rfl))
  f20 := ⟨Tryz.f145.name, by decide, Tryz.func145.trans (congrArg some (by kernel_rfl))⟩
  f21 := ⟨Tryz.f146.name, by decide, Tryz.func146.trans (congrArg some (by kernel_rfl))⟩
  f22 := ⟨Tryz.f147.name, by decide, Tryz.func147.trans (congrArg some (by kernel_rfl))⟩
  f23 := ⟨Tryz.f148.name, by decide, Tryz.func148.trans (congrArg some (by kernel_rfl))⟩
  f24 := ⟨Tryz.f149.name, by decide, Tryz.func149.trans (congrArg some (by kernel_rfl))⟩
  f25 := ⟨Tryz.f150.name, by decide, Tryz.func150.trans (congrArg some (by kernel_rfl))⟩
  f26 := ⟨Tryz.f151.name, by decide, Tryz.func151.trans (congrArg some (by kernel_rfl))⟩
  f27 := ⟨Tryz.f152.name, by decide, Tryz.func152.trans (congrArg some (by kernel_rfl))⟩
  f28 := Tryz.func130.trans (congrArg some (by kernel_rfl))
  f29 := Tryz.func131.trans (congrArg some (by kernel_rfl))
  f46 := ⟨Tryz.f158.name, by decide, Tryz.func158.trans (congrArg some (by kernel_rfl))⟩
  f47 := Tryz.func141.trans (congrArg some (by kernel_rfl))
  f48 := Tryz.func142.trans (congrArg some (by kernel_rfl))
  f49 := ⟨Tryz.f159.name, by decide, Tryz.func159.trans (congrArg some (by kernel_rfl))⟩
  f50 := ⟨Tryz.f160.name, by decide, Tryz.func160.trans (congrArg some (by kernel_rfl))⟩
  f57 := ⟨Tryz.f163.name, by decide, Tryz.func163.trans (congrArg some (by kernel_rfl))⟩
  t0 := Tryz.underlying0
  a0 := Tryz.isAgg0
  z0 := Tryz.sizeOf0
  v0 := Tryz.zeroValue0
  t3 := Tryz.underlying3
  a3 := Tryz.isAgg3
  z3 := Tryz.sizeOf3
  v3 := Tryz.zeroValue3
  t4 := Tryz.underlying4
  a4 := Tryz.isAgg4
  z4 := Tryz.sizeOf4
  v4 := Tryz.zeroValue4
  t5 := Tryz.underlying5
  a5 := Tryz.isAgg5
  z5 := Tryz.sizeOf5
  v5 := Tryz.zeroValue5
  t9 := Tryz.underlying9
  a9 := Tryz.isAgg9
  z9 := Tryz.sizeOf9
  v9 := Tryz.zeroValue9
  t22 := Tryz.underlying22
  a22 := Tryz.isAgg22
  z22 := Tryz.sizeOf22
  v22 := Tryz.zeroValue22
  t25 := Tryz.underlying80
  a25 := Tryz.isAgg80
  z25 := Tryz.sizeOf80
  v25 := Tryz.zeroValue80
  t39 := Tryz.underlying128
  a39 := Tryz.isAgg128
  z39 := Tryz.sizeOf128
  v39 := Tryz.zeroValue128
  t45 := Tryz.underlying136
  a45 := Tryz.isAgg136
  z45 := Tryz.sizeOf136
  v45 := Tryz.zeroValue136
  t46 := Tryz.underlying137
  a46 := Tryz.isAgg137
  z46 := Tryz.sizeOf137
  v46 := Tryz.zeroValue137
  t50 := Tryz.underlying141
  a50 := Tryz.isAgg141
  z50 := Tryz.sizeOf141
  v50 := Tryz.zeroValue141
  t53 := Tryz.underlying144
  a53 := Tryz.isAgg144
  z53 := Tryz.sizeOf144
  v53 := Tryz.zeroValue144
  t55 := Tryz.underlying146
  a55 := Tryz.isAgg146
  z55 := Tryz.sizeOf146
  v55 := Tryz.zeroValue146
  t66 := Tryz.underlying163
  a66 := Tryz.isAgg163
  z66 := Tryz.sizeOf163
  v66 := Tryz.zeroValue163
  t70 := Tryz.underlying167
  a70 := Tryz.isAgg167
  z70 := Tryz.sizeOf167
  v70 := Tryz.zeroValue167
  t76 := Tryz.underlying179
  a76 := Tryz.isAgg179
  z76 := Tryz.sizeOf179
  v76 := Tryz.zeroValue179
  t77 := Tryz.underlying180
  a77 := Tryz.isAgg180
  z77 := Tryz.sizeOf180
  v77 := Tryz.zeroValue180 }

end Go.Proofs.YtfclfmloceddfaaGreat

/- The sort of lines: contract. -/
set_option linter.unusedVariables false
set_option linter.unusedSimpArgs false
namespace Go.Proofs.YtfclfmloceddfaaGreat
open Go.RowKit Go.Sort Go.Shelf Tinker

theorem cmpLn_lt (l m : L) : decide (cmpLn l m < 0) = ltL l m := by
  unfold cmpLn
  rw [Bool.eq_iff_iff, decide_eq_true_eq, ltL_iff]
  have e1 := @cmpP_lt l.op m.op
  have e2 := @cmpP_lt l.to m.to
  have e3 := @cmpP_lt l.a m.a
  have e4 := @cmpP_lt l.b m.b
  have z1 := @cmpP_0 l.op m.op
  have z2 := @cmpP_0 l.to m.to
  have z3 := @cmpP_0 l.a m.a
  have z4 := @cmpP_0 l.b m.b
  have hf : feL [cmpP l.op m.op, cmpP l.to m.to, cmpP l.a m.a, cmpP l.b m.b] = if cmpP l.op m.op = 0 then (if cmpP l.to m.to = 0 then (if cmpP l.a m.a = 0 then cmpP l.b m.b else cmpP l.a m.a) else cmpP l.to m.to) else cmpP l.op m.op := by
    simp only [feL, fe]
    split <;> (try split) <;> (try split) <;> (try split) <;> simp_all
  rw [hf]
  by_cases h1 : l.op = m.op
  · rw [if_pos (z1.2 h1)]
    by_cases h2 : l.to = m.to
    · rw [if_pos (z2.2 h2)]
      by_cases h3 : l.a = m.a
      · rw [if_pos (z3.2 h3), e4]; omega
      · rw [if_neg (fun e => h3 (z3.1 e)), e3]; omega
    · rw [if_neg (fun e => h2 (z2.1 e)), e2]; omega
  · rw [if_neg (fun e => h1 (z1.1 e)), e1]; omega

instance : Inhabited L := ⟨⟨0, 0, 0, 0⟩⟩
/-- The cells of a line. -/
def lE (l : L) : List Value := [.int .i64 l.op, .int .i64 l.to, .int .i64 l.a, .int .i64 l.b]
theorem lE_one (l : L) : ∀ v ∈ lE l, v.oneCell' = true := by
  intro v hv
  simp only [lE, List.mem_cons, List.not_mem_nil, or_false] at hv
  rcases hv with rfl | rfl | rfl | rfl <;> rfl
theorem cmpLn_swo : SWO (ltOf cmpLn) where
  irrefl x := by show decide (cmpLn x x < 0) = false; rw [cmpLn_lt]; exact ltL_irr x
  trans x y z h1 h2 := by
    have h1' : decide (cmpLn x y < 0) = true := h1
    have h2' : decide (cmpLn y z < 0) = true := h2
    show decide (cmpLn x z < 0) = true
    rw [cmpLn_lt] at *
    exact ltL_trans h1' h2'
  ntrans x y z h1 h2 := by
    have h1' : decide (cmpLn x y < 0) = false := h1
    have h2' : decide (cmpLn y z < 0) = false := h2
    show decide (cmpLn x z < 0) = false
    rw [cmpLn_lt] at *
    cases h : ltL x z
    · rfl
    · by_cases e : x = y
      · subst e; rw [h2'] at h; cases h
      · cases h3 : ltL y x
        · exact absurd (ltL_total h1' h3) e
        · have := ltL_trans h3 h
          rw [h2'] at this
          cases this
theorem flat_lc (ps : List L) : (flatK lE 4 ps.toArray).toList = lc ps := by
  apply List.ext_getElem?
  intro j
  by_cases hj : j < ps.length * 4
  · obtain ⟨l, hl⟩ := get_of_lt (show j / 4 < ps.length by omega)
    have hs : j < (flatK lE 4 ps.toArray).size := by simpa using hj
    have h1 : (flatK lE 4 ps.toArray)[j]! = (lE l)[j % 4]! := by
      rw [get_flatK _ _ _ _ (by simpa using hj)]
      have h2 : j / 4 < ps.toArray.size := by simp; omega
      have h3 : ps.toArray[j / 4]! = l := by
        rw [getElem!_pos ps.toArray (j / 4) h2]
        simp only [List.getElem_toArray]
        exact (List.getElem?_eq_some_iff.1 hl).2
      rw [h3]
    rw [Array.getElem?_toList, Array.getElem?_eq_getElem hs, ← getElem!_pos _ j hs, h1]
    obtain ⟨g0, g1, g2, g3⟩ := lc_get hl
    have hm : j % 4 = 0 ∨ j % 4 = 1 ∨ j % 4 = 2 ∨ j % 4 = 3 := by omega
    rcases hm with h | h | h | h
    · rw [h, show j = j / 4 * 4 by omega, g0]; rfl
    · rw [h, show j = j / 4 * 4 + 1 by omega, g1]; rfl
    · rw [h, show j = j / 4 * 4 + 2 by omega, g2]; rfl
    · rw [h, show j = j / 4 * 4 + 3 by omega, g3]; rfl
  · rw [List.getElem?_eq_none (by simp; omega), List.getElem?_eq_none (by rw [lc_length]; omega)]

theorem blockK_sort (W : World) (g m : Nat) (dk : Array L) (os : Array Obj) {b : Nat} (hb : b < W.heap.size) (hne : b ≠ g) : (sortWorldK lE 4 W g 0 m dk os).heap[b]? = W.heap[b]? := by
  show ((W.heap.modify g _) ++ os)[b]? = _
  rw [Array.getElem?_append_left (by simpa using hb), Array.getElem?_modify, if_neg (fun e => hne e.symm)]
theorem sizeK_sort (W : World) (g m : Nat) (dk : Array L) (os : Array Obj) : W.heap.size ≤ (sortWorldK lE 4 W g 0 m dk os).heap.size := by
  show _ ≤ ((W.heap.modify g _) ++ os).size
  simp
theorem offK_sort (W : World) (g m : Nat) (dk : Array L) (os : Array Obj) : Off g W (sortWorldK lE 4 W g 0 m dk os) :=
  ⟨rfl, rfl, rfl, sizeK_sort W g m dk os, fun b hb hne => blockK_sort W g m dk os hb hne⟩
theorem cmpLays_lines (W : World) (g n : Nat) : CmpLays Tryz.prog 112 #[] lE 4 cmpLn g 0 n W := by
  intro m os dk hs x y
  exact (compareLines_any x y _).mono fun e w' ⟨he, hB, hd⟩ => ⟨he, grown_of hB hd⟩

theorem sortLn_any (g base c : Nat) (zs : List L) (W : World) (hO : W.ownsRow base 42 4 (.slice (some ⟨g, 0, none⟩) zs.length c) zs.length (lc zs)) (hm : zs.length ≤ 1000) :
    Calls Tryz.prog 111 #[.slice (some ⟨g, 0, none⟩) zs.length c, .func (.func 112) #[] #[]] W fun e w' =>
      e = .returned (.tuple #[]) ∧ ∃ sp : List L, sp.Perm zs ∧ (sp.Pairwise fun a b => ltL b a = false) ∧ w'.ownsRow base 42 4 (.slice (some ⟨g, 0, none⟩) zs.length c) zs.length (lc sp) ∧ Off g W w' := by
  have hgl := own_lt hO
  have hds : zs.toArray.size = zs.length := by simp
  have hH : HoldsK lE 4 W g 0 zs.toArray := by
    intro j hj
    rw [size_flatK, hds] at hj
    have h1 : (lc zs)[j]? = some ((flatK lE 4 zs.toArray)[j]!) := by
      have hs : j < (flatK lE 4 zs.toArray).size := by simpa using hj
      rw [← flat_lc, Array.getElem?_toList, Array.getElem?_eq_getElem hs, ← getElem!_pos _ j hs]
    rw [Nat.zero_add]
    exact ⟨own_cell hO h1, own_free hO j⟩
  have hcon := AnyQ.slices_SortFunc sortLines 4 Tryz.isAgg42 Tryz.sizeOf42 lE (fun _ => rfl) lE_one cmpLn cmpLn_swo 112 #[] g 0 c zs.toArray W (enters_of Tryz.func112 (by kernel_rfl) rfl) (cmpLays_lines W g _) hH hgl (by rw [hds]; omega)
  rw [hds] at hcon
  refine hcon.mono ?_
  rintro e w' ⟨rfl, d', q, os, hp, hs, rfl⟩
  obtain ⟨hp1, _, hp3⟩ := hp
  have hd's : d'.size = zs.length := by rw [hp1, hds]
  have hperm : d'.toList.Perm zs := by
    have e1 : d'.extract 0 zs.length = d' := by rw [← hd's]; exact Array.extract_size
    have e2 : zs.toArray.extract 0 zs.length = zs.toArray := by rw [← hds]; exact Array.extract_size
    rw [e1, e2] at hp3
    simpa using hp3
  refine ⟨rfl, d'.toList, hperm, ?_, ?_, offK_sort W g q d' os⟩
  · rw [List.pairwise_iff_getElem]
    intro i j hi hj hij
    have hi' : i < d'.size := by simpa using hi
    have hj' : j < d'.size := by simpa using hj
    have h := hs i j (Nat.zero_le _) hij (by omega)
    have h' : decide (cmpLn d'[j]! d'[i]! < 0) = false := h
    rw [cmpLn_lt, getElem!_pos _ i hi', getElem!_pos _ j hj'] at h'
    simpa using h'
  · have hfl := flat_lc d'.toList
    rw [Array.toArray_toList] at hfl
    rcases hO.2 with ⟨he, hn⟩ | ⟨g', cap, cur, he, hb, hg, hn, hmx, hsz, hx⟩
    · cases he
    · injection he with ha _ hc
      injection ha with ha
      injection ha with ha
      subst ha hc
      have hln : (lc d'.toList).length = zs.length * 4 := by rw [lc_length]; simp; omega
      have hF : (flatK lE 4 d').size = zs.length * 4 := by rw [size_flatK, hd's]
      refine ⟨hln, .inr ⟨g, c, putCells id 0 (flatK lE 4 d') cur, rfl, hb, ?_, hn, hmx, by unfold putCells; simpa using hsz, ?_⟩⟩
      · show ((W.heap.modify g _) ++ os)[g]? = _
        rw [Array.getElem?_append_left (by simpa using hgl), Array.getElem?_modify, if_pos rfl, hg]
        rfl
      · apply List.ext_getElem?
        intro j
        rw [List.getElem?_take]
        have hck : zs.length * 4 ≤ c * 4 := Nat.mul_le_mul_right 4 hn
        by_cases hj : j < zs.length * 4
        · rw [if_pos hj, ← hfl]
          unfold putCells
          rw [Array.getElem?_toList, Array.getElem?_mapIdx, Array.getElem?_toList]
          have hjc : j < cur.size := by rw [hsz]; omega
          have hjf : j < (flatK lE 4 d').size := by rw [hF]; exact hj
          rw [Array.getElem?_eq_getElem hjc, Array.getElem?_eq_getElem hjf]
          simp only [Option.map_some, Nat.zero_le, true_and, Nat.zero_add, Nat.sub_zero, id]
          rw [if_pos hjf, getElem!_pos _ j hjf]
        · rw [if_neg hj, List.getElem?_eq_none (by rw [hln]; omega)]

end Go.Proofs.YtfclfmloceddfaaGreat
