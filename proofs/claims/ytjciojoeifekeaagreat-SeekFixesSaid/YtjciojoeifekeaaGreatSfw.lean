/- SeekFixes: the walk. -/
import Derived.Test.YtjciojoeifekeaaGreatFxE
import Derived.Test.YtjciojoeifekeaaGreatRfx
import Derived.Test.YtjciojoeifekeaaGreatSnr
import Derived.Test.YtjciojoeifekeaaGreatLng
import Derived.Test.YtjciojoeifekeaaGreatSkC
import Derived.Test.YtjciojoeifekeaaGreatMny
import Derived.Deep.RegionHeld
set_option linter.unusedVariables false
set_option linter.unusedSimpArgs false
namespace Go.Proofs.YtjciojoeifekeaaGreat
open Go.RowKit Go.Shelf Tinker
attribute [local go_sem] Oper.semAt_some

theorem fxR_len9 (ps : List L) (ts : List T) (i n : Int) : (fxR ps ts i n).length ≤ 1000 := by
  unfold fxR
  split
  · exact fx_len9 _ _ _ _
  · simp
theorem fxR_good {ps : List L} {ts : List T} {i n : Int} {m : L} (h : m ∈ fxR ps ts i n) : gdR ps [⟨i, m⟩] ts = true ∧ vpx ps [⟨i, m⟩] (vts ts) = 0 := by
  unfold fxR at h
  split at h
  · rename_i h0
    obtain ⟨v1, v2, v3, v4, v5⟩ := fxC_ok h0
    obtain ⟨h1, h2⟩ := fx_mem h
    have hti : ((i.toNat : Nat) : Int) = i := by omega
    have g1 := gdR_one (ps := ps) (ts := ts) (i := i.toNat) (m := m) v1 v2 (by omega) h1
    have g2 := vpx_one (ps := ps) (i := i.toNat) (m := m) v1 (by omega) h1
    rw [hti] at g1 g2 h2
    rw [g1, v2]
    exact ⟨h2, g2⟩
  · cases h

set_option maxRecDepth 100000 in
set_option maxHeartbeats 8000000 in
theorem seekFixes_walk (a : Option Addr) (ca : Nat) (ps : List L) (h : Option Addr) (ch : Nat) (ts : List T) (i n : Int) (ww : World) (hp : LinesAt ww a ps) (hts : TestsAt ww h ts) (ht : ts.length ≤ maxLen) :
    Calls Tryz.prog 4 #[.slice a ps.length ca, .slice h ts.length ch, .agg #[.int .i64 i, .int .i64 n]] ww fun e w' => e = .returned (.bool true) ∧ Below ww.heap.size ww w' := by
  have HK := Lib.hid (fun w => same5_any w)
  have HL := Lib.hid (fun w => long5_any a none ps.length 0 ca 0 w)
  have HM := Lib.hid (fun w h1 => many4_any h ch ts w h1 ht)
  obtain ⟨W0, hW0⟩ : ∃ W, W = ww.alloc (.cells #[.int .i64 i, .int .i64 n] 35) := ⟨_, rfl⟩
  have hb : Below ww.heap.size ww W0 := by rw [hW0]; exact (Below.refl _ _).alloc (Nat.le_refl _) _
  have hX : W0.heap[ww.heap.size]? = some (.cells #[.int .i64 i, .int .i64 n] 35 (0, 0)) := by rw [hW0]; exact hp_new rfl
  have HP := Lib.hid (hp.below hb (Nat.le_refl _))
  have HT := Lib.hid (hts.below hb (Nat.le_refl _))
  have HB0 := Lib.hid hb
  have HX := Lib.hid hX
  clear hp hts hb hX
  by_cases g1 : 100 < ps.length
  · rw [show (decide (100 < ps.length) || decide (100 < 0)) = true by simpa using g1] at HL
    clear g1 HP HT HM
    obtain ⟨x0, x1⟩ : W0.cell? ⟨ww.heap.size, 0, none⟩ = some (.int .i64 i) ∧ W0.cell? ⟨ww.heap.size, 1, none⟩ = some (.int .i64 n) := ⟨hp_cell HX.out (j := 0) (by rfl), hp_cell HX.out (j := 1) (by rfl)⟩
    go_enter Tryz.func4, Tryz.ntmps4
    rw [hW0] at x0 x1
    go_wp2_with fail
    rw [← hW0]
    rw [← hW0] at x0 x1
    clear hW0
    refine (HL.out _).mono ?_
    rintro e we0 ⟨rfl, rfl⟩
    have HB := HB0
    go_wp2_with fail
    refine (HK.out _).mono ?_
    rintro e w9 ⟨rfl, hB⟩
    have HB9 := Lib.hid (HB.out.trans (hB.mono HB.out.size))
    clear hB
    go_wp2_with fail
    go_ret
    exact ⟨rfl, HB9.out⟩
  rw [show (decide (100 < ps.length) || decide (100 < 0)) = false by simp; omega] at HL
  cases g2 : manyC ts
  case true =>
    rw [g2] at HM
    clear g1 g2
    obtain ⟨x0, x1⟩ : W0.cell? ⟨ww.heap.size, 0, none⟩ = some (.int .i64 i) ∧ W0.cell? ⟨ww.heap.size, 1, none⟩ = some (.int .i64 n) := ⟨hp_cell HX.out (j := 0) (by rfl), hp_cell HX.out (j := 1) (by rfl)⟩
    go_enter Tryz.func4, Tryz.ntmps4
    rw [hW0] at x0 x1
    go_wp2_with fail
    rw [← hW0]
    rw [← hW0] at x0 x1
    clear hW0
    refine (HL.out _).mono ?_
    rintro e we0 ⟨rfl, rfl⟩
    go_wp2_with fail
    refine (HM.out _ HT.out).mono ?_
    rintro e w1 ⟨rfl, hB⟩
    have HP := Lib.hid (HP.out.below hB (Nat.le_refl _))
    have HT := Lib.hid (HT.out.below hB (Nat.le_refl _))
    have HX := Lib.hid (hp_below HX.out hB (hp_lt HX.out))
    have HB := Lib.hid hB
    clear hB x0 x1
    clear HX HP HT
    have HB := Lib.hid (HB0.out.trans (HB.out.mono HB0.out.size))
    go_wp2_with fail
    refine (HK.out _).mono ?_
    rintro e w9 ⟨rfl, hB⟩
    have HB9 := Lib.hid (HB.out.trans (hB.mono HB.out.size))
    clear hB
    go_wp2_with fail
    go_ret
    exact ⟨rfl, HB9.out⟩
  case false =>
    obtain ⟨t50, tml⟩ := manyC_no g2
    rw [g2] at HM
    have hml : ∀ t ∈ ts, t.inn.length ≤ 1000 := fun t h => Nat.le_trans (tml t h) (by decide)
    have C1 := Lib.hid (fun w h1 h2 => sFixes_any a h ca ch ps ts i n w h1 h2 (by omega) (by omega) hml)
    have C2 := Lib.hid (fun w h1 h2 => rFixes5_any a h ca ch ps ts i n w h1 h2)
    have HS := Lib.hid (fun a b c d w h1 h2 => sameL4_self (fxR ps ts i n).length a b c d (fxR ps ts i n) w rfl h1 h2 (fxR_len9 _ _ _ _))
    have HGd := Lib.hid (fun m (hm : m ∈ fxR ps ts i n) => fxR_good hm)
    have HGG := Lib.hid (fun g x w h1 h2 h3 => pIsGood_any a g h ca 1 ch ps [⟨i, x⟩] ts w h1 h2 h3 (by simp) (by omega) hml (by omega))
    simp only [List.length_cons, List.length_nil, Nat.zero_add] at HGG
    have hl1 := fxR_len9 ps ts i n
    generalize fxR ps ts i n = A at *
    generalize fxC ps ts i n = q at *
    have hq2 : (q != q) = false := by simp
    clear g1 g2 tml hml t50
    obtain ⟨x0, x1⟩ : W0.cell? ⟨ww.heap.size, 0, none⟩ = some (.int .i64 i) ∧ W0.cell? ⟨ww.heap.size, 1, none⟩ = some (.int .i64 n) := ⟨hp_cell HX.out (j := 0) (by rfl), hp_cell HX.out (j := 1) (by rfl)⟩
    go_enter Tryz.func4, Tryz.ntmps4
    rw [hW0] at x0 x1
    go_wp2_with fail
    rw [← hW0]
    rw [← hW0] at x0 x1
    clear hW0
    refine (HL.out _).mono ?_
    rintro e we0 ⟨rfl, rfl⟩
    go_wp2_with fail
    refine (HM.out _ HT.out).mono ?_
    rintro e w1 ⟨rfl, hB⟩
    have HP := Lib.hid (HP.out.below hB (Nat.le_refl _))
    have HT := Lib.hid (HT.out.below hB (Nat.le_refl _))
    have HX := Lib.hid (hp_below HX.out hB (hp_lt HX.out))
    have HB := Lib.hid hB
    clear hB x0 x1
    obtain ⟨x0, x1⟩ : w1.cell? ⟨ww.heap.size, 0, none⟩ = some (.int .i64 i) ∧ w1.cell? ⟨ww.heap.size, 1, none⟩ = some (.int .i64 n) := ⟨hp_cell HX.out (j := 0) (by rfl), hp_cell HX.out (j := 1) (by rfl)⟩
    go_wp2_with fail
    refine (C1.out _ HP.out HT.out).mono ?_
    rintro e w2 ⟨a1, k1, rfl, hq, hB⟩
    have HO1 := Lib.hid hq
    have HP := Lib.hid (HP.out.below hB (Nat.le_refl _))
    have HT := Lib.hid (HT.out.below hB (Nat.le_refl _))
    have HX := Lib.hid (hp_below HX.out hB (hp_lt HX.out))
    have HB := Lib.hid (HB.out.trans (hB.mono HB.out.size))
    clear hq hB x0 x1
    obtain ⟨x0, x1⟩ : w2.cell? ⟨ww.heap.size, 0, none⟩ = some (.int .i64 i) ∧ w2.cell? ⟨ww.heap.size, 1, none⟩ = some (.int .i64 n) := ⟨hp_cell HX.out (j := 0) (by rfl), hp_cell HX.out (j := 1) (by rfl)⟩
    go_wp2_with fail
    refine (C2.out _ HP.out HT.out).mono ?_
    rintro e w3 ⟨a2, k2, rfl, hq, hB⟩
    have HO1 := Lib.hid (own_below HO1.out hB (Nat.le_refl _))
    have HO2 := Lib.hid (lines_of_own hq).1
    have HP := Lib.hid (HP.out.below hB (Nat.le_refl _))
    have HT := Lib.hid (HT.out.below hB (Nat.le_refl _))
    have HX := Lib.hid (hp_below HX.out hB (hp_lt HX.out))
    have HB := Lib.hid (HB.out.trans (hB.mono HB.out.size))
    clear hq hB x0 x1
    go_wp2_with fail
    refine (HS.out _ _ _ _ _ (lines_of_own HO1.out).1 HO2.out).mono ?_
    rintro e w4 ⟨rfl, hB⟩
    have HA := Lib.hid (lines_of_own (own_below HO1.out hB (Nat.le_refl _))).1
    have HP := Lib.hid (HP.out.below hB (Nat.le_refl _))
    have HT := Lib.hid (HT.out.below hB (Nat.le_refl _))
    have HX := Lib.hid (hp_below HX.out hB (hp_lt HX.out))
    have HB := Lib.hid (HB0.out.trans ((HB.out.trans (hB.mono HB.out.size)).mono HB0.out.size))
    clear hB HO1 HO2
    go_wp2_with fail
    go_loopw [11] (fun s11 wr => ∃ k : Nat, k ≤ A.length ∧ s11 = .int .i64 (k : Int) ∧ Below w4.heap.size w4 wr) (fun s11 _ => A.length - (intOf s11).toNat)
    case atStart => exact ⟨0, Nat.zero_le _, rfl, Below.refl _ _⟩
    case round =>
      obtain ⟨k, hk, rfl, hBr⟩ := hrel
      have HBR := Lib.hid hBr
      clear hBr
      by_cases hlk : k < A.length
      · have dk : decide ((k : Int) < (A.length : Int)) = true := decide_eq_true (by omega)
        by_cases h40 : k < 40
        · have d40 : decide ((k : Int) < 40) = true := decide_eq_true (by omega)
          obtain ⟨tb, toff, x, rfl, htl, hx, d0, d1, d2, d3⟩ := (HA.out.below HBR.out (Nat.le_refl _)).at_ hlk
          obtain ⟨gd1, gd2⟩ := HGd.out x (mem_of_get hx)
          have HG := Lib.hid (fun w g h1 h2 h3 => HGG.out g x w h1 h2 h3)
          rw [gd1, gd2] at HG
          have HX := Lib.hid (hp_below HX.out HBR.out (hp_lt HX.out))
          have hlw := hp_lt HX.out
          have HP := Lib.hid (HP.out.below HBR.out (Nat.le_refl _))
          have HT := Lib.hid (HT.out.below HBR.out (Nat.le_refl _))
          obtain ⟨x0, x1⟩ : wr.cell? ⟨ww.heap.size, 0, none⟩ = some (.int .i64 i) ∧ wr.cell? ⟨ww.heap.size, 1, none⟩ = some (.int .i64 n) := ⟨hp_cell HX.out (j := 0) (by rfl), hp_cell HX.out (j := 1) (by rfl)⟩
          have k1' : (0 : Int) ≤ (k : Int) := by omega
          have k2' : (k : Int) < (A.length : Int) := by omega
          clear hx gd1 gd2 HGG HGd
          go_wp2_with fail
          rename_i Qb Kb hKb
          refine wp_region_held_drew (S := (fun W2 => Below wr.heap.size wr W2)) (by kernel_rfl) ?_ (fun hHeld => ?_)
          · exact (Below.refl _ _).drew
          generalize wr.drew = Wd at *
          refine wpAnyH_take (i := 0) (oi := ?oiq1) (v := (.slice a ps.length ca)) ?hiq1 (by kernel_rfl) (by kernel_rfl) (by kernel_rfl) ?hqq1 ?hyq1 hHeld ?restq1
          case hiq1 => exact rfl
          case hqq1 => exact fun _ _ _ h => h
          case hyq1 =>
            refine Or.inl ⟨by rfl, ?_⟩
            intro w hSw
            go_simp
            (try with_reducible rfl)
          try simp only [Act.put, List.getElem_toArray, List.getElem_cons_succ, List.getElem_cons_zero, List.setIfInBounds_toArray, List.set_cons_zero, List.set_cons_succ]
          refine wpAnyH_take (i := 1) (oi := ?oiq2) (v := (.pointer (some ⟨ww.heap.size, 0, none⟩))) ?hiq2 (by kernel_rfl) (by kernel_rfl) (by kernel_rfl) ?hqq2 ?hyq2 hHeld ?restq2
          case hiq2 => exact rfl
          case hqq2 => exact fun _ _ _ h => h
          case hyq2 =>
            refine Or.inl ⟨by rfl, ?_⟩
            intro w hSw
            go_simp
            (try with_reducible rfl)
          try simp only [Act.put, List.getElem_toArray, List.getElem_cons_succ, List.getElem_cons_zero, List.setIfInBounds_toArray, List.set_cons_zero, List.set_cons_succ]
          refine wpAnyH_take (i := 2) (oi := ?oiq3) (v := (.int .i64 i)) ?hiq3 (by kernel_rfl) (by kernel_rfl) (by kernel_rfl) ?hqq3 ?hyq3 hHeld ?restq3
          case hiq3 => exact rfl
          case hqq3 => exact fun _ _ _ h => h
          case hyq3 =>
            refine Or.inl ⟨by rfl, ?_⟩
            intro w hSw
            have m0 := (hSw.cell (p := ⟨ww.heap.size, 0, none⟩) hlw).trans x0
            go_simp
            (try with_reducible rfl)
          try simp only [Act.put, List.getElem_toArray, List.getElem_cons_succ, List.getElem_cons_zero, List.setIfInBounds_toArray, List.set_cons_zero, List.set_cons_succ]
          refine wpAnyH_take (i := 3) (oi := ?oiq4) (v := (.slice (some ⟨tb, toff, none⟩) A.length k1)) ?hiq4 (by kernel_rfl) (by kernel_rfl) (by kernel_rfl) ?hqq4 ?hyq4 hHeld ?restq4
          case hiq4 => exact rfl
          case hqq4 => exact fun _ _ _ h => h
          case hyq4 =>
            refine Or.inl ⟨by rfl, ?_⟩
            intro w hSw
            go_simp
            (try with_reducible rfl)
          try simp only [Act.put, List.getElem_toArray, List.getElem_cons_succ, List.getElem_cons_zero, List.setIfInBounds_toArray, List.set_cons_zero, List.set_cons_succ]
          refine wpAnyH_take (i := 4) (oi := ?oiq5) (v := (.int .i64 (k : Int))) ?hiq5 (by kernel_rfl) (by kernel_rfl) (by kernel_rfl) ?hqq5 ?hyq5 hHeld ?restq5
          case hiq5 => exact rfl
          case hqq5 => exact fun _ _ _ h => h
          case hyq5 =>
            refine Or.inl ⟨by rfl, ?_⟩
            intro w hSw
            go_simp
            (try with_reducible rfl)
          try simp only [Act.put, List.getElem_toArray, List.getElem_cons_succ, List.getElem_cons_zero, List.setIfInBounds_toArray, List.set_cons_zero, List.set_cons_succ]
          refine wpAnyH_take (i := 5) (oi := ?oiq6) (v := (.pointer (some ⟨tb, toff + k * 4, none⟩))) ?hiq6 (by kernel_rfl) (by kernel_rfl) (by kernel_rfl) ?hqq6 ?hyq6 hHeld ?restq6
          case hiq6 => exact rfl
          case hqq6 => exact fun _ _ _ h => h
          case hyq6 =>
            refine Or.inl ⟨by rfl, ?_⟩
            intro w hSw
            go_simp
            (try with_reducible rfl)
          try simp only [Act.put, List.getElem_toArray, List.getElem_cons_succ, List.getElem_cons_zero, List.setIfInBounds_toArray, List.set_cons_zero, List.set_cons_succ]
          refine wpAnyH_take (i := 6) (oi := ?oiq7) (v := (.agg #[.int .i64 x.op, .int .i64 x.to, .int .i64 x.a, .int .i64 x.b])) ?hiq7 (by kernel_rfl) (by kernel_rfl) (by kernel_rfl) ?hqq7 ?hyq7 hHeld ?restq7
          case hiq7 => exact rfl
          case hqq7 => exact fun _ _ _ h => h
          case hyq7 =>
            refine Or.inl ⟨by rfl, ?_⟩
            intro w hSw
            have m0 := (hSw.cell (p := ⟨tb, _, none⟩) htl).trans d0
            have m1 := (hSw.cell (p := ⟨tb, _, none⟩) htl).trans d1
            have m2 := (hSw.cell (p := ⟨tb, _, none⟩) htl).trans d2
            have m3 := (hSw.cell (p := ⟨tb, _, none⟩) htl).trans d3
            go_simp
            (try with_reducible rfl)
          try simp only [Act.put, List.getElem_toArray, List.getElem_cons_succ, List.getElem_cons_zero, List.setIfInBounds_toArray, List.set_cons_zero, List.set_cons_succ]
          refine wpAnyH_take (i := 7) (oi := ?oiq8) (v := (.agg #[.int .i64 i, .int .i64 x.op, .int .i64 x.to, .int .i64 x.a, .int .i64 x.b])) ?hiq8 (by kernel_rfl) (by kernel_rfl) (by kernel_rfl) ?hqq8 ?hyq8 hHeld ?restq8
          case hiq8 => exact rfl
          case hqq8 => exact fun _ _ _ h => h
          case hyq8 =>
            refine Or.inl ⟨by rfl, ?_⟩
            intro w hSw
            go_simp
            (try with_reducible rfl)
          try simp only [Act.put, List.getElem_toArray, List.getElem_cons_succ, List.getElem_cons_zero, List.setIfInBounds_toArray, List.set_cons_zero, List.set_cons_succ]
          refine wpAnyH_take (i := 9) (oi := ?oiq9) (v := (.slice h ts.length ch)) ?hiq9 (by kernel_rfl) (by kernel_rfl) (by kernel_rfl) ?hqq9 ?hyq9 hHeld ?restq9
          case hiq9 => exact rfl
          case hqq9 => exact fun _ _ _ h => h
          case hyq9 =>
            refine Or.inl ⟨by rfl, ?_⟩
            intro w hSw
            go_simp
            (try with_reducible rfl)
          try simp only [Act.put, List.getElem_toArray, List.getElem_cons_succ, List.getElem_cons_zero, List.setIfInBounds_toArray, List.set_cons_zero, List.set_cons_succ]
          refine wpAnyH_ready (rs := [8]) (by kernel_rfl) (by simp) ?_
          refine AllReadyH.cons (o := ?or16_8) ?hr16_8 ?kr16_8 AllReadyH.nil
          case hr16_8 => exact rfl
          case kr16_8 =>
            intro K hK
            go_simp
            have HXE := Lib.hid (edit_at Wd 41 ⟨i, x⟩)
            have HBE := Lib.hid (hHeld.alloc hHeld.size (.cells #[.int .i64 i, .int .i64 x.op, .int .i64 x.to, .int .i64 x.a, .int .i64 x.b] 41))
            refine hK.out _ _ HBE.out (fun hHeld => ?_)
            clear hK K
            try simp only [Act.put, List.getElem_toArray, List.getElem_cons_succ, List.getElem_cons_zero, List.setIfInBounds_toArray, List.set_cons_zero, List.set_cons_succ]
            have hHeld := HBE.out
            refine wpAnyH_ready (rs := [10]) (by kernel_rfl) (by simp) ?_
            refine AllReadyH.cons (o := ?or15_10) ?hr15_10 ?kr15_10 AllReadyH.nil
            case hr15_10 => exact rfl
            case kr15_10 =>
              intro K hK
              go_simp
              refine (HG.out _ _ (HP.out.below HBE.out (Nat.le_refl _)) HXE.out (HT.out.below HBE.out (Nat.le_refl _))).mono ?_
              rintro e w5 ⟨rfl, hB5⟩
              refine hK.out _ _ (hHeld.trans (hB5.mono hHeld.size)) (fun hHeld => ?_)
              clear hK K
              try simp only [Act.put, List.getElem_toArray, List.getElem_cons_succ, List.getElem_cons_zero, List.setIfInBounds_toArray, List.set_cons_zero, List.set_cons_succ]
              have hHeld2 := hHeld
              refine wpAnyH_take (i := 11) (oi := ?oiq10) (v := ?vq10) ?hiq10 (by kernel_rfl) (by kernel_rfl) (by kernel_rfl) ?hqq10 ?hyq10 hHeld ?restq10
              case hiq10 => exact rfl
              case hqq10 => exact fun _ _ _ h => h
              case hyq10 =>
                refine Or.inl ⟨by rfl, ?_⟩
                intro w hSw
                go_simp
                (try with_reducible rfl)
              try simp only [Act.put, List.getElem_toArray, List.getElem_cons_succ, List.getElem_cons_zero, List.setIfInBounds_toArray, List.set_cons_zero, List.set_cons_succ]
              refine wpAnyH_take (i := 12) (oi := ?oiq11) (v := ?vq11) ?hiq11 (by kernel_rfl) (by kernel_rfl) (by kernel_rfl) ?hqq11 ?hyq11 hHeld ?restq11
              case hiq11 => exact rfl
              case hqq11 => exact fun _ _ _ h => h
              case hyq11 =>
                refine Or.inl ⟨by rfl, ?_⟩
                intro w hSw
                go_simp
                (try with_reducible rfl)
              try simp only [Act.put, List.getElem_toArray, List.getElem_cons_succ, List.getElem_cons_zero, List.setIfInBounds_toArray, List.set_cons_zero, List.set_cons_succ]
              refine wpAnyH_take (i := 13) (oi := ?oiq12) (v := ?vq12) ?hiq12 (by kernel_rfl) (by kernel_rfl) (by kernel_rfl) ?hqq12 ?hyq12 hHeld ?restq12
              case hiq12 => exact rfl
              case hqq12 => exact fun _ _ _ h => h
              case hyq12 =>
                refine Or.inl ⟨by rfl, ?_⟩
                intro w hSw
                go_simp
                (try with_reducible rfl)
              try simp only [Act.put, List.getElem_toArray, List.getElem_cons_succ, List.getElem_cons_zero, List.setIfInBounds_toArray, List.set_cons_zero, List.set_cons_succ]
              refine wpAnyH_take (i := 14) (oi := ?oiq13) (v := ?vq13) ?hiq13 (by kernel_rfl) (by kernel_rfl) (by kernel_rfl) ?hqq13 ?hyq13 hHeld ?restq13
              case hiq13 => exact rfl
              case hqq13 => exact fun _ _ _ h => h
              case hyq13 =>
                refine Or.inl ⟨by rfl, ?_⟩
                intro w hSw
                go_simp
                (try with_reducible rfl)
              try simp only [Act.put, List.getElem_toArray, List.getElem_cons_succ, List.getElem_cons_zero, List.setIfInBounds_toArray, List.set_cons_zero, List.set_cons_succ]
              refine wpAnyH_take (i := 15) (oi := ?oiq14) (v := ?vq14) ?hiq14 (by kernel_rfl) (by kernel_rfl) (by kernel_rfl) ?hqq14 ?hyq14 hHeld ?restq14
              case hiq14 => exact rfl
              case hqq14 => exact fun _ _ _ h => h
              case hyq14 =>
                refine Or.inl ⟨by rfl, ?_⟩
                intro w hSw
                go_simp
                (try with_reducible rfl)
              try simp only [Act.put, List.getElem_toArray, List.getElem_cons_succ, List.getElem_cons_zero, List.setIfInBounds_toArray, List.set_cons_zero, List.set_cons_succ]
              refine wpAnyH_done (by kernel_rfl) ?_ _
              clear hHeld
              refine hKb _ _ ?_
              have HBR := Lib.hid (HBR.out.trans (hHeld2.mono HBR.out.size))
              go_wp2_with fail
              go_roundw
              case rel => exact ⟨k + 1, by omega, by go_num, HBR.out⟩
              case measure => simp [intOf]; omega
        · have d40 : decide ((k : Int) < 40) = false := decide_eq_false (by omega)
          go_wp2_with fail
          refine (HK.out _).mono ?_
          rintro e w9 ⟨rfl, hB⟩
          have HB9 := Lib.hid ((HB.out.trans (HBR.out.mono HB.out.size)).trans (hB.mono (Nat.le_trans HB.out.size HBR.out.size)))
          clear hB
          go_wp2_with fail
          go_ret
          exact ⟨rfl, HB9.out⟩
      · have dk : decide ((k : Int) < (A.length : Int)) = false := decide_eq_false (by omega)
        go_wp2_with fail
        refine (HK.out _).mono ?_
        rintro e w9 ⟨rfl, hB⟩
        have HB9 := Lib.hid ((HB.out.trans (HBR.out.mono HB.out.size)).trans (hB.mono (Nat.le_trans HB.out.size HBR.out.size)))
        clear hB
        go_wp2_with fail
        go_ret
        exact ⟨rfl, HB9.out⟩

end Go.Proofs.YtjciojoeifekeaaGreat
