/- Repair of seek. -/
import Derived.Test.YtfclfmloceddfaaGreatDbD
set_option linter.unusedVariables false
set_option linter.unusedSimpArgs false
namespace Go.Proofs.YtfclfmloceddfaaGreat
open Go.RowKit Go.Shelf Tinker

set_option maxRecDepth 100000 in
set_option maxHeartbeats 4000000 in
theorem sRepair_any (a h : Option Addr) (ca ch : Nat) (ps : List L) (ts : List T) (w : World) (hp : LinesAt w a ps) (hts : TestsAt w h ts) (hm : ps.length ≤ 1000) (hm2 : ts.length ≤ 1000) (hml : ∀ t ∈ ts, t.inn.length ≤ 1000) :
    Calls Tryz.prog 12 #[.slice a ps.length ca, .slice h ts.length ch] w (GivesRp (rpQ ps ts) (skC ps ts 0) w) := by
  have H1 := Lib.hid (fun w h1 h2 => sValidateTests_any a h ca ch ps ts w h1 h2 hm hm2 hml)
  have H4 := Lib.hid (fun w h1 h2 => sValidateNeed_any a h ca ch ps ts w h1 h2 hm hm2 hml)
  have HP := Lib.hid hp
  have HT := Lib.hid hts
  by_cases hz : skC ps ts 0 = 0
  · obtain ⟨v1, v2, v3, v4⟩ := skC_ok hz
    have hfe : feL [feL [vp ps, vts ts], ndC ps ts] = 0 := (skC_db ps ts).trans hz
    have H7 := Lib.hid (fun w h1 h2 => sdouble_any a h ca ch ps ts w h1 h2 v1 v2)
    have H3 := Lib.hid (fun (n : Int) w h1 h2 (h9 : 0 ≤ n) (h10 : n ≤ 2) => ssingle_any a h ca ch ps ts n w h1 h2 v1 v2 h9 h10)
    have HST := Lib.hid (fun (k : Nat) (h9 : k < 3) => rpF_step ps ts h9)
    have HDN := Lib.hid (show (dbO ps ts).isSome = false → dbL ps ts = [] from fun h => by unfold dbL; cases hq : dbO ps ts with | none => rfl | some y => rw [hq] at h; cases h)
    have H33 := Lib.hid (show rpF ps ts 3 = rp3 ps ts from rfl)
    have HS := Lib.hid (fun w => sources_any w)
    have HK0 := Lib.hid (fun w => kind0_any w)
    have HK1 := Lib.hid (fun w => kind1_any w)
    have HK2 := Lib.hid (fun w => kind2_any w)
    have hm0 : ∀ (k : Nat) (w : World), Sem.run Tryz.prog (method (k + 1) 76 (.agg #[]) "tinker/seek.kind") w = .ok (180, .agg #[]) w := fun k w => by kernel_rfl
    have hm1 : ∀ (k : Nat) (w : World), Sem.run Tryz.prog (method (k + 1) 86 (.agg #[]) "tinker/seek.kind") w = .ok (181, .agg #[]) w := fun k w => by kernel_rfl
    have hm2 : ∀ (k : Nat) (w : World), Sem.run Tryz.prog (method (k + 1) 87 (.agg #[]) "tinker/seek.kind") w = .ok (182, .agg #[]) w := fun k w => by kernel_rfl
    rw [hz, show rpQ ps ts = rpF ps ts 0 by unfold rpQ; rw [if_pos hz]]
    obtain ⟨R, hR⟩ : ∃ R, R = rpF ps ts 0 := ⟨_, rfl⟩
    rw [← hR]
    have HRR := Lib.hid hR
    clear hR hz v1 v2 v3 v4 hp hts hml
    generalize feL [vp ps, vts ts] = d1 at *
    generalize ndC ps ts = d4 at *
    go_enter Tryz.func12, Tryz.ntmps12
    go_wp2_with fail
    refine (H1.out _ HP.out HT.out).mono ?_
    rintro e w1 ⟨rfl, hB⟩
    have HB1 := Lib.hid hB
    clear hB
    go_wp2_with fail
    refine (H4.out _ (HP.out.below HB1.out (Nat.le_refl _)) (HT.out.below HB1.out (Nat.le_refl _))).mono ?_
    rintro e w3 ⟨rfl, hB⟩
    have HB3 := Lib.hid (HB1.out.trans (hB.mono HB1.out.size))
    clear hB
    go_wp2_with fail
    refine (firstError_any _ 2 [d1, d4] _ (ints_lit' (zs := [d1, d4]) rfl) (by simp)).mono ?_
    rintro e w4 ⟨rfl, rfl⟩
    rw [hfe]
    have HB4 := Lib.hid (HB3.out.alloc HB3.out.size (.cells (iv [d1, d4]) 28))
    generalize w3.alloc (.cells (iv [d1, d4]) 28) = W4 at *
    go_wp2_with fail
    refine (HS.out _).mono ?_
    rintro e w5 ⟨rfl, hg, hB⟩
    have HG := Lib.hid hg
    have HB5 := Lib.hid (HB4.out.trans (hB.mono HB4.out.size))
    clear hg hB
    generalize W4.heap.size = sa at *
    go_wp2_with fail
    go_loopw [28] (fun s28 wr => ∃ k : Nat, k ≤ 3 ∧ s28 = .int .i64 (k : Int) ∧ rpF ps ts k = R ∧ wr.heap[sa]? = some (.cells srcC 55 (0, 0)) ∧ Below w.heap.size w wr) (fun s28 _ => 3 - (intOf s28).toNat)
    case atStart => exact ⟨0, by omega, rfl, HRR.out.symm, HG.out, HB5.out⟩
    case round =>
      clear HB4 HRR HB5 HG
      obtain ⟨k, hk, rfl, hR, hg, hB⟩ := hrel
      have HR := Lib.hid hR
      have HG := Lib.hid hg
      have HB := Lib.hid hB
      have g0 : wr.cell? ⟨sa, 0, none⟩ = some (.iface 76 (.agg #[])) := hp_cell HG.out (by rfl)
      have g1 : wr.cell? ⟨sa, 1, none⟩ = some (.iface 86 (.agg #[])) := hp_cell HG.out (by rfl)
      have g2 : wr.cell? ⟨sa, 2, none⟩ = some (.iface 87 (.agg #[])) := hp_cell HG.out (by rfl)
      have hk3 : k = 0 ∨ k = 1 ∨ k = 2 ∨ k = 3 := by omega
      clear hR hg hB hk
      rcases hk3 with rfl | rfl | rfl | rfl
      · have HST1 := Lib.hid ((HST.out 0 (by omega)).symm.trans HR.out)
        have H31 := Lib.hid (fun w h1 h2 => H3.out 0 w h1 h2 (by omega) (by omega))
        rw [show srcV 0 = (.iface 76 (.agg #[]) : Value) from rfl] at H31
        rw [show ((0 : Nat) : Int) = 0 from rfl] at HST1
        clear HR H3 HST H33 HDN H7 H1 H4
        unfold rpS at HST1
        generalize smX ps ts (edL ps 0) = o at *
        cases o with
        | none =>
          rw [show (none : Option (E × Int)).isSome = false from rfl] at H31
          generalize bsE none = bb at *
          unfold eV at H31
          go_wp2_with fail
          refine (H31.out _ (HP.out.below HB.out (Nat.le_refl _)) (HT.out.below HB.out (Nat.le_refl _))).mono ?_
          rintro e w2 ⟨rfl, hB⟩
          have HG2 := Lib.hid (hp_alloc (o' := .cells #[.int .i64 bb.at_, .int .i64 bb.ln.op, .int .i64 bb.ln.to, .int .i64 bb.ln.a, .int .i64 bb.ln.b] 49) (hp_below HG.out hB (hp_lt HG.out)))
          have HB2 := Lib.hid ((HB.out.trans (hB.mono HB.out.size)).alloc (Nat.le_trans HB.out.size hB.size) (.cells #[.int .i64 bb.at_, .int .i64 bb.ln.op, .int .i64 bb.ln.to, .int .i64 bb.ln.a, .int .i64 bb.ln.b] 49))
          clear hB g0 g1 g2 HG HB
          go_wp2_with fail
          go_roundw
          case rel => exact ⟨1, by omega, by go_num, HST1.out, HG2.out, HB2.out⟩
          case measure => simp [intOf]
        | some y =>
          rw [show (some y).isSome = true from rfl, show bsE (some y) = y.1 from rfl] at H31
          dsimp only at HST1
          generalize y.1 = bb at *
          unfold eV at H31
          go_wp2_with fail
          refine (H31.out _ (HP.out.below HB.out (Nat.le_refl _)) (HT.out.below HB.out (Nat.le_refl _))).mono ?_
          rintro e w2 ⟨rfl, hB⟩
          have HB2 := Lib.hid ((HB.out.trans (hB.mono HB.out.size)).alloc (Nat.le_trans HB.out.size hB.size) (.cells #[.int .i64 bb.at_, .int .i64 bb.ln.op, .int .i64 bb.ln.to, .int .i64 bb.ln.a, .int .i64 bb.ln.b] 49))
          have hnew := hp_new (w := w2) (o := .cells #[.int .i64 bb.at_, .int .i64 bb.ln.op, .int .i64 bb.ln.to, .int .i64 bb.ln.a, .int .i64 bb.ln.b] 49 (0, 0)) rfl
          have hlw : w2.heap.size < (w2.alloc (.cells #[.int .i64 bb.at_, .int .i64 bb.ln.op, .int .i64 bb.ln.to, .int .i64 bb.ln.a, .int .i64 bb.ln.b] 49)).heap.size := hp_lt hnew
          have HN := Lib.hid hnew
          have y0 := hp_cell hnew (j := 0) (by rfl)
          have y1 := hp_cell hnew (j := 1) (by rfl)
          have y2 := hp_cell hnew (j := 2) (by rfl)
          have y3 := hp_cell hnew (j := 3) (by rfl)
          have y4 := hp_cell hnew (j := 4) (by rfl)
          obtain ⟨W3, hW3⟩ : ∃ W, W = w2.alloc (.cells #[.int .i64 bb.at_, .int .i64 bb.ln.op, .int .i64 bb.ln.to, .int .i64 bb.ln.a, .int .i64 bb.ln.b] 49) := ⟨_, rfl⟩
          rw [← hW3] at HB2 HN y0 y1 y2 y3 y4 hlw
          clear hB g0 g1 g2 HG HB hnew
          go_upto_region 9 with fail
          rw [← hW3]
          clear hW3
          go_region_with (refine (HK0.out _).mono ?_; rintro e wa ⟨rfl, hBa⟩; try (have z0 := (hBa.cell (p := ⟨w2.heap.size, 0, none⟩) hlw).trans y0; have z1 := (hBa.cell (p := ⟨w2.heap.size, 1, none⟩) hlw).trans y1; have z2 := (hBa.cell (p := ⟨w2.heap.size, 2, none⟩) hlw).trans y2; have z3 := (hBa.cell (p := ⟨w2.heap.size, 3, none⟩) hlw).trans y3; have z4 := (hBa.cell (p := ⟨w2.heap.size, 4, none⟩) hlw).trans y4))
          all_goals go_wp2_with fail
          all_goals refine bodyPost_ret (results_tmp4 rfl _ _ _) rfl ?_
          all_goals rw [← HST1.out]
          all_goals first | exact ⟨_, _, rfl, edit_at wa 49 bb, (HB2.out.trans (hBa.mono HB2.out.size)).alloc (HB2.out.trans (hBa.mono HB2.out.size)).size _⟩ | exact ⟨_, _, rfl, (edit_at (W3) 49 bb).below hBa (Nat.le_refl _), (HB2.out.alloc HB2.out.size _).trans (hBa.mono (HB2.out.alloc HB2.out.size _).size)⟩ | exact ⟨_, _, rfl, edit_at wa 49 bb, (HB2.out.drew.trans (hBa.mono HB2.out.drew.size)).alloc (HB2.out.drew.trans (hBa.mono HB2.out.drew.size)).size _⟩ | exact ⟨_, _, rfl, (edit_at (W3.drew) 49 bb).below hBa (Nat.le_refl _), (HB2.out.drew.alloc HB2.out.drew.size _).trans (hBa.mono (HB2.out.drew.alloc HB2.out.drew.size _).size)⟩ | exact ⟨_, _, rfl, edit_at wa 49 bb, (HB2.out.drew.drew.trans (hBa.mono HB2.out.drew.drew.size)).alloc (HB2.out.drew.drew.trans (hBa.mono HB2.out.drew.drew.size)).size _⟩ | exact ⟨_, _, rfl, (edit_at (W3.drew.drew) 49 bb).below hBa (Nat.le_refl _), (HB2.out.drew.drew.alloc HB2.out.drew.drew.size _).trans (hBa.mono (HB2.out.drew.drew.alloc HB2.out.drew.drew.size _).size)⟩
      · have HST1 := Lib.hid ((HST.out 1 (by omega)).symm.trans HR.out)
        have H31 := Lib.hid (fun w h1 h2 => H3.out 1 w h1 h2 (by omega) (by omega))
        rw [show srcV 1 = (.iface 86 (.agg #[]) : Value) from rfl] at H31
        rw [show ((1 : Nat) : Int) = 1 from rfl] at HST1
        clear HR H3 HST H33 HDN H7 H1 H4
        unfold rpS at HST1
        generalize smX ps ts (edL ps 1) = o at *
        cases o with
        | none =>
          rw [show (none : Option (E × Int)).isSome = false from rfl] at H31
          generalize bsE none = bb at *
          unfold eV at H31
          go_wp2_with fail
          refine (H31.out _ (HP.out.below HB.out (Nat.le_refl _)) (HT.out.below HB.out (Nat.le_refl _))).mono ?_
          rintro e w2 ⟨rfl, hB⟩
          have HG2 := Lib.hid (hp_alloc (o' := .cells #[.int .i64 bb.at_, .int .i64 bb.ln.op, .int .i64 bb.ln.to, .int .i64 bb.ln.a, .int .i64 bb.ln.b] 49) (hp_below HG.out hB (hp_lt HG.out)))
          have HB2 := Lib.hid ((HB.out.trans (hB.mono HB.out.size)).alloc (Nat.le_trans HB.out.size hB.size) (.cells #[.int .i64 bb.at_, .int .i64 bb.ln.op, .int .i64 bb.ln.to, .int .i64 bb.ln.a, .int .i64 bb.ln.b] 49))
          clear hB g0 g1 g2 HG HB
          go_wp2_with fail
          go_roundw
          case rel => exact ⟨2, by omega, by go_num, HST1.out, HG2.out, HB2.out⟩
          case measure => simp [intOf]
        | some y =>
          rw [show (some y).isSome = true from rfl, show bsE (some y) = y.1 from rfl] at H31
          dsimp only at HST1
          generalize y.1 = bb at *
          unfold eV at H31
          go_wp2_with fail
          refine (H31.out _ (HP.out.below HB.out (Nat.le_refl _)) (HT.out.below HB.out (Nat.le_refl _))).mono ?_
          rintro e w2 ⟨rfl, hB⟩
          have HB2 := Lib.hid ((HB.out.trans (hB.mono HB.out.size)).alloc (Nat.le_trans HB.out.size hB.size) (.cells #[.int .i64 bb.at_, .int .i64 bb.ln.op, .int .i64 bb.ln.to, .int .i64 bb.ln.a, .int .i64 bb.ln.b] 49))
          have hnew := hp_new (w := w2) (o := .cells #[.int .i64 bb.at_, .int .i64 bb.ln.op, .int .i64 bb.ln.to, .int .i64 bb.ln.a, .int .i64 bb.ln.b] 49 (0, 0)) rfl
          have hlw : w2.heap.size < (w2.alloc (.cells #[.int .i64 bb.at_, .int .i64 bb.ln.op, .int .i64 bb.ln.to, .int .i64 bb.ln.a, .int .i64 bb.ln.b] 49)).heap.size := hp_lt hnew
          have HN := Lib.hid hnew
          have y0 := hp_cell hnew (j := 0) (by rfl)
          have y1 := hp_cell hnew (j := 1) (by rfl)
          have y2 := hp_cell hnew (j := 2) (by rfl)
          have y3 := hp_cell hnew (j := 3) (by rfl)
          have y4 := hp_cell hnew (j := 4) (by rfl)
          obtain ⟨W3, hW3⟩ : ∃ W, W = w2.alloc (.cells #[.int .i64 bb.at_, .int .i64 bb.ln.op, .int .i64 bb.ln.to, .int .i64 bb.ln.a, .int .i64 bb.ln.b] 49) := ⟨_, rfl⟩
          rw [← hW3] at HB2 HN y0 y1 y2 y3 y4 hlw
          clear hB g0 g1 g2 HG HB hnew
          go_upto_region 9 with fail
          rw [← hW3]
          clear hW3
          go_region_with (refine (HK1.out _).mono ?_; rintro e wa ⟨rfl, hBa⟩; try (have z0 := (hBa.cell (p := ⟨w2.heap.size, 0, none⟩) hlw).trans y0; have z1 := (hBa.cell (p := ⟨w2.heap.size, 1, none⟩) hlw).trans y1; have z2 := (hBa.cell (p := ⟨w2.heap.size, 2, none⟩) hlw).trans y2; have z3 := (hBa.cell (p := ⟨w2.heap.size, 3, none⟩) hlw).trans y3; have z4 := (hBa.cell (p := ⟨w2.heap.size, 4, none⟩) hlw).trans y4))
          all_goals go_wp2_with fail
          all_goals refine bodyPost_ret (results_tmp4 rfl _ _ _) rfl ?_
          all_goals rw [← HST1.out]
          all_goals first | exact ⟨_, _, rfl, edit_at wa 49 bb, (HB2.out.trans (hBa.mono HB2.out.size)).alloc (HB2.out.trans (hBa.mono HB2.out.size)).size _⟩ | exact ⟨_, _, rfl, (edit_at (W3) 49 bb).below hBa (Nat.le_refl _), (HB2.out.alloc HB2.out.size _).trans (hBa.mono (HB2.out.alloc HB2.out.size _).size)⟩ | exact ⟨_, _, rfl, edit_at wa 49 bb, (HB2.out.drew.trans (hBa.mono HB2.out.drew.size)).alloc (HB2.out.drew.trans (hBa.mono HB2.out.drew.size)).size _⟩ | exact ⟨_, _, rfl, (edit_at (W3.drew) 49 bb).below hBa (Nat.le_refl _), (HB2.out.drew.alloc HB2.out.drew.size _).trans (hBa.mono (HB2.out.drew.alloc HB2.out.drew.size _).size)⟩ | exact ⟨_, _, rfl, edit_at wa 49 bb, (HB2.out.drew.drew.trans (hBa.mono HB2.out.drew.drew.size)).alloc (HB2.out.drew.drew.trans (hBa.mono HB2.out.drew.drew.size)).size _⟩ | exact ⟨_, _, rfl, (edit_at (W3.drew.drew) 49 bb).below hBa (Nat.le_refl _), (HB2.out.drew.drew.alloc HB2.out.drew.drew.size _).trans (hBa.mono (HB2.out.drew.drew.alloc HB2.out.drew.drew.size _).size)⟩
      · have HST1 := Lib.hid ((HST.out 2 (by omega)).symm.trans HR.out)
        have H31 := Lib.hid (fun w h1 h2 => H3.out 2 w h1 h2 (by omega) (by omega))
        rw [show srcV 2 = (.iface 87 (.agg #[]) : Value) from rfl] at H31
        rw [show ((2 : Nat) : Int) = 2 from rfl] at HST1
        clear HR H3 HST H33 HDN H7 H1 H4
        unfold rpS at HST1
        generalize smX ps ts (edL ps 2) = o at *
        cases o with
        | none =>
          rw [show (none : Option (E × Int)).isSome = false from rfl] at H31
          generalize bsE none = bb at *
          unfold eV at H31
          go_wp2_with fail
          refine (H31.out _ (HP.out.below HB.out (Nat.le_refl _)) (HT.out.below HB.out (Nat.le_refl _))).mono ?_
          rintro e w2 ⟨rfl, hB⟩
          have HG2 := Lib.hid (hp_alloc (o' := .cells #[.int .i64 bb.at_, .int .i64 bb.ln.op, .int .i64 bb.ln.to, .int .i64 bb.ln.a, .int .i64 bb.ln.b] 49) (hp_below HG.out hB (hp_lt HG.out)))
          have HB2 := Lib.hid ((HB.out.trans (hB.mono HB.out.size)).alloc (Nat.le_trans HB.out.size hB.size) (.cells #[.int .i64 bb.at_, .int .i64 bb.ln.op, .int .i64 bb.ln.to, .int .i64 bb.ln.a, .int .i64 bb.ln.b] 49))
          clear hB g0 g1 g2 HG HB
          go_wp2_with fail
          go_roundw
          case rel => exact ⟨3, by omega, by go_num, HST1.out, HG2.out, HB2.out⟩
          case measure => simp [intOf]
        | some y =>
          rw [show (some y).isSome = true from rfl, show bsE (some y) = y.1 from rfl] at H31
          dsimp only at HST1
          generalize y.1 = bb at *
          unfold eV at H31
          go_wp2_with fail
          refine (H31.out _ (HP.out.below HB.out (Nat.le_refl _)) (HT.out.below HB.out (Nat.le_refl _))).mono ?_
          rintro e w2 ⟨rfl, hB⟩
          have HB2 := Lib.hid ((HB.out.trans (hB.mono HB.out.size)).alloc (Nat.le_trans HB.out.size hB.size) (.cells #[.int .i64 bb.at_, .int .i64 bb.ln.op, .int .i64 bb.ln.to, .int .i64 bb.ln.a, .int .i64 bb.ln.b] 49))
          have hnew := hp_new (w := w2) (o := .cells #[.int .i64 bb.at_, .int .i64 bb.ln.op, .int .i64 bb.ln.to, .int .i64 bb.ln.a, .int .i64 bb.ln.b] 49 (0, 0)) rfl
          have hlw : w2.heap.size < (w2.alloc (.cells #[.int .i64 bb.at_, .int .i64 bb.ln.op, .int .i64 bb.ln.to, .int .i64 bb.ln.a, .int .i64 bb.ln.b] 49)).heap.size := hp_lt hnew
          have HN := Lib.hid hnew
          have y0 := hp_cell hnew (j := 0) (by rfl)
          have y1 := hp_cell hnew (j := 1) (by rfl)
          have y2 := hp_cell hnew (j := 2) (by rfl)
          have y3 := hp_cell hnew (j := 3) (by rfl)
          have y4 := hp_cell hnew (j := 4) (by rfl)
          obtain ⟨W3, hW3⟩ : ∃ W, W = w2.alloc (.cells #[.int .i64 bb.at_, .int .i64 bb.ln.op, .int .i64 bb.ln.to, .int .i64 bb.ln.a, .int .i64 bb.ln.b] 49) := ⟨_, rfl⟩
          rw [← hW3] at HB2 HN y0 y1 y2 y3 y4 hlw
          clear hB g0 g1 g2 HG HB hnew
          go_upto_region 9 with fail
          rw [← hW3]
          clear hW3
          go_region_with (refine (HK2.out _).mono ?_; rintro e wa ⟨rfl, hBa⟩; try (have z0 := (hBa.cell (p := ⟨w2.heap.size, 0, none⟩) hlw).trans y0; have z1 := (hBa.cell (p := ⟨w2.heap.size, 1, none⟩) hlw).trans y1; have z2 := (hBa.cell (p := ⟨w2.heap.size, 2, none⟩) hlw).trans y2; have z3 := (hBa.cell (p := ⟨w2.heap.size, 3, none⟩) hlw).trans y3; have z4 := (hBa.cell (p := ⟨w2.heap.size, 4, none⟩) hlw).trans y4))
          all_goals go_wp2_with fail
          all_goals refine bodyPost_ret (results_tmp4 rfl _ _ _) rfl ?_
          all_goals rw [← HST1.out]
          all_goals first | exact ⟨_, _, rfl, edit_at wa 49 bb, (HB2.out.trans (hBa.mono HB2.out.size)).alloc (HB2.out.trans (hBa.mono HB2.out.size)).size _⟩ | exact ⟨_, _, rfl, (edit_at (W3) 49 bb).below hBa (Nat.le_refl _), (HB2.out.alloc HB2.out.size _).trans (hBa.mono (HB2.out.alloc HB2.out.size _).size)⟩ | exact ⟨_, _, rfl, edit_at wa 49 bb, (HB2.out.drew.trans (hBa.mono HB2.out.drew.size)).alloc (HB2.out.drew.trans (hBa.mono HB2.out.drew.size)).size _⟩ | exact ⟨_, _, rfl, (edit_at (W3.drew) 49 bb).below hBa (Nat.le_refl _), (HB2.out.drew.alloc HB2.out.drew.size _).trans (hBa.mono (HB2.out.drew.alloc HB2.out.drew.size _).size)⟩ | exact ⟨_, _, rfl, edit_at wa 49 bb, (HB2.out.drew.drew.trans (hBa.mono HB2.out.drew.drew.size)).alloc (HB2.out.drew.drew.trans (hBa.mono HB2.out.drew.drew.size)).size _⟩ | exact ⟨_, _, rfl, (edit_at (W3.drew.drew) 49 bb).below hBa (Nat.le_refl _), (HB2.out.drew.drew.alloc HB2.out.drew.drew.size _).trans (hBa.mono (HB2.out.drew.drew.alloc HB2.out.drew.drew.size _).size)⟩
      · rw [H33.out] at HR
        unfold rp3 at HR
        clear g0 g1 g2
        go_wp2_with fail
        refine (H7.out _ (HP.out.below HB.out (Nat.le_refl _)) (HT.out.below HB.out (Nat.le_refl _))).mono ?_
        rintro e w6 ⟨aq, cq, rfl, hq, hB⟩
        have HX := Lib.hid hq
        have HB6 := Lib.hid (HB.out.trans (hB.mono HB.out.size))
        clear hB hq
        generalize dbL ps ts = R1 at *
        cases hob : (dbO ps ts).isSome with
        | true =>
          rw [hob] at HR
          have HR2 := Lib.hid (show (R1, (3 : Int), true) = R from HR.out)
          clear HR hob
          go_wp2_with fail
          refine (HS.out _).mono ?_
          rintro e w7 ⟨rfl, hg, hB⟩
          have HX7 := Lib.hid (HX.out.below hB (Nat.le_refl _))
          have HB7 := Lib.hid (HB6.out.trans (hB.mono HB6.out.size))
          clear hB hg
          go_wp2_with fail
          refine bodyPost_ret (results_tmp4 rfl _ _ _) rfl ?_
          rw [← HR2.out]
          exact ⟨_, _, rfl, HX7.out, HB7.out⟩
        | false =>
          rw [hob] at HR
          have HR2 := Lib.hid (show (R1, (0 : Int), false) = R from HR.out)
          have hdb : R1 = [] := HDN.out hob
          clear HR hob
          subst hdb
          go_wp2_with fail
          refine bodyPost_ret (results_tmp4 rfl _ _ _) rfl ?_
          rw [← HR2.out]
          exact ⟨_, _, rfl, .inl rfl, HB6.out⟩
  · have hfe : feL [feL [vp ps, vts ts], ndC ps ts] = skC ps ts 0 := skC_db ps ts
    have y1 : (skC ps ts 0 != 0) = true := by simpa using hz
    rw [show rpQ ps ts = ([], 0, false) by unfold rpQ; rw [if_neg hz]]
    clear hz hp hts hml
    generalize skC ps ts 0 = q at *
    generalize feL [vp ps, vts ts] = d1 at *
    generalize ndC ps ts = d4 at *
    go_enter Tryz.func12, Tryz.ntmps12
    go_wp2_with fail
    refine (H1.out _ HP.out HT.out).mono ?_
    rintro e w1 ⟨rfl, hB⟩
    have HB1 := Lib.hid hB
    clear hB
    go_wp2_with fail
    refine (H4.out _ (HP.out.below HB1.out (Nat.le_refl _)) (HT.out.below HB1.out (Nat.le_refl _))).mono ?_
    rintro e w3 ⟨rfl, hB⟩
    have HB3 := Lib.hid (HB1.out.trans (hB.mono HB1.out.size))
    clear hB
    go_wp2_with fail
    refine (firstError_any _ 2 [d1, d4] _ (ints_lit' (zs := [d1, d4]) rfl) (by simp)).mono ?_
    rintro e w4 ⟨rfl, rfl⟩
    rw [hfe]
    have HB4 := Lib.hid (HB3.out.alloc HB3.out.size (.cells (iv [d1, d4]) 28))
    generalize w3.alloc (.cells (iv [d1, d4]) 28) = W4 at *
    go_wp2_with fail
    refine bodyPost_ret (results_tmp4 rfl _ _ _) rfl ?_
    exact ⟨_, _, rfl, .inl rfl, HB4.out⟩

end Go.Proofs.YtfclfmloceddfaaGreat
