/- TopPatches: the walk. -/
import Derived.Test.YtdcoebeffbkpnaaGreatTpsA
import Derived.Test.YtdcoebeffbkpnaaGreatDoe
import Derived.Test.YtdcoebeffbkpnaaGreatRdc
import Derived.Test.YtdcoebeffbkpnaaGreatThrB
import Derived.Test.YtdcoebeffbkpnaaGreatFxC
import Derived.Test.YtdcoebeffbkpnaaGreatFxW
import Derived.Test.YtdcoebeffbkpnaaGreatMny
set_option linter.unusedVariables false
set_option linter.unusedSimpArgs false
namespace Go.Proofs.YtdcoebeffbkpnaaGreat
open Go.RowKit Tinker

/-- A block lies. -/
def BoxAt (w : World) (g : Nat) (o : Obj) : Prop := w.heap[g]? = some o
theorem BoxAt.below {w w' : World} {B g : Nat} {o : Obj} (h : BoxAt w g o) (hb : Below B w w') (hB : w.heap.size ≤ B) : BoxAt w' g o := hp_below h hb (Nat.lt_of_lt_of_le (hp_lt h) hB)
theorem tps_line (w : World) (t : TypeId) : LinesAt (w.alloc (.cells #[.int .i64 1, .int .i64 0, .int .i64 3, .int .i64 0] t)) (some ⟨w.heap.size, 0, none⟩) [⟨1, 0, 3, 0⟩] :=
  .inr ⟨w.heap.size, 0, rfl, by simp, fun j l hj => by
    match j, hj with
    | 0, hj => simp at hj; subst hj; exact ⟨hp_cell (hp_new rfl) rfl, hp_cell (hp_new rfl) rfl, hp_cell (hp_new rfl) rfl, hp_cell (hp_new rfl) rfl⟩
    | j + 1, hj => simp at hj⟩
theorem tps_v : vpx [⟨1, 0, 3, 0⟩] [⟨0, ⟨1, 0, 4, 0⟩⟩] 0 = 0 := by decide +kernel
theorem tps_z : szR [⟨1, 0, 3, 0⟩] [⟨0, ⟨1, 0, 4, 0⟩⟩] = 1 := by decide +kernel
theorem tps_size (b c : Addr) (w : World) (h : LinesAt w (some b) [⟨1, 0, 3, 0⟩]) (h2 : EditsAt w (some c) [⟨0, ⟨1, 0, 4, 0⟩⟩]) : Calls Tryz.prog 29 #[.slice (some b) 1 1, .slice (some c) 1 1] w fun e w' => e = .returned (.tuple #[.int .i64 1, .int .i64 0]) ∧ Below w.heap.size w w' := by
  have h := pSize_any (some b) (some c) 1 1 [⟨1, 0, 3, 0⟩] [⟨0, ⟨1, 0, 4, 0⟩⟩] w h h2 (by decide) (by decide)
  rw [tps_v, tps_z] at h
  exact h

set_option maxRecDepth 100000 in
set_option maxHeartbeats 8000000 in
theorem topPatches_walk (a : Option Addr) (ca : Nat) (ps : List L) (g : Option Addr) (cg : Nat) (xs : List E) (g2 : Option Addr) (cg2 : Nat) (ys : List E) (h : Option Addr) (ch : Nat) (ts : List T) (w : World) (hp : LinesAt w a ps) (hc : a = none → ca = 0) (hx : EditsAt w g xs) (hc1 : g = none → cg = 0) (hy : EditsAt w g2 ys) (hc3 : g2 = none → cg2 = 0) (hts : TestsAt w h ts) (hc2 : h = none → ch = 0) (ht : ts.length ≤ maxLen) :
    Calls Tryz.prog 5 #[.slice a ps.length ca, .agg #[.slice g xs.length cg, .slice g2 ys.length cg2], .slice h ts.length ch] w fun e w' => e = .returned (.bool true) ∧ Below w.heap.size w w' := by
  clear hc hc1 hc2 hc3
  have HL := Lib.hid (fun w => long4_any a g ps.length xs.length ca cg w)
  have HL2 := Lib.hid (fun w => long4_any a g2 ps.length ys.length ca cg2 w)
  have HM := Lib.hid (fun w h1 => many4_any h ch ts w h1 ht)
  have HP := Lib.hid hp
  have HX := Lib.hid hx
  have HY := Lib.hid hy
  have HT := Lib.hid hts
  clear hp hx hy hts
  have hb1 : Below w.heap.size w (w.alloc (.cells #[.slice g xs.length cg, .slice g2 ys.length cg2] 59 (0, 0))) := (Below.refl _ _).alloc (Nat.le_refl _) _
  have HBoxA := Lib.hid (show BoxAt (w.alloc (.cells #[.slice g xs.length cg, .slice g2 ys.length cg2] 59 (0, 0))) w.heap.size (.cells #[.slice g xs.length cg, .slice g2 ys.length cg2] 59 (0, 0)) from hp_new rfl)
  have hlx := tps_line (w.alloc (.cells #[.slice g xs.length cg, .slice g2 ys.length cg2] 59 (0, 0))) 63
  have hex := e4_edit ((w.alloc (.cells #[.slice g xs.length cg, .slice g2 ys.length cg2] 59 (0, 0))).alloc (.cells #[.int .i64 1, .int .i64 0, .int .i64 3, .int .i64 0] 63)) 65 ⟨0, ⟨1, 0, 4, 0⟩⟩
  have hlx2 := hlx.below ((Below.refl _ _).alloc (Nat.le_refl _) (.cells #[.int .i64 0, .int .i64 1, .int .i64 0, .int .i64 4, .int .i64 0] 65)) (Nat.le_refl _)
  have hbx : Below (w.alloc (.cells #[.slice g xs.length cg, .slice g2 ys.length cg2] 59 (0, 0))).heap.size (w.alloc (.cells #[.slice g xs.length cg, .slice g2 ys.length cg2] 59 (0, 0))) (((w.alloc (.cells #[.slice g xs.length cg, .slice g2 ys.length cg2] 59 (0, 0))).alloc (.cells #[.int .i64 1, .int .i64 0, .int .i64 3, .int .i64 0] 63)).alloc (.cells #[.int .i64 0, .int .i64 1, .int .i64 0, .int .i64 4, .int .i64 0] 65)) := ((Below.refl _ _).alloc (Nat.le_refl _) _).alloc (by simp) _
  have HBox := Lib.hid (HBoxA.out.below hbx (Nat.le_refl _))
  have HBX := Lib.hid (hb1.trans (hbx.mono hb1.size))
  simp only [World.size_alloc] at hlx2 hex
  have HLX2 := Lib.hid hlx2
  have HEX := Lib.hid hex
  clear hb1 HBoxA hlx hex hlx2 hbx
  go_enter Tryz.func5, Tryz.ntmps5
  go_wp2_with fail
  refine (tps_size _ _ _ HLX2.out HEX.out).mono ?_
  rintro e w0 ⟨rfl, hB0⟩
  have HB0 := Lib.hid (HBX.out.trans (hB0.mono HBX.out.size))
  have HBox := Lib.hid (HBox.out.below hB0 (Nat.le_refl _))
  clear hB0 HBX HLX2 HEX
  by_cases g1 : 100 < ps.length ∨ 100 < xs.length
  · rw [show (decide (100 < ps.length) || decide (100 < xs.length)) = true by simpa using g1] at HL
    clear g1 HL2 HM HP HX HY HT
    have cb0 := hp_cell HBox.out (j := 0) (by rfl)
    have cb1 := hp_cell HBox.out (j := 1) (by rfl)
    go_wp2_with fail
    clear cb0 cb1
    refine (HL.out _).mono ?_
    rintro e we1 ⟨rfl, rfl⟩
    have cb0 := hp_cell HBox.out (j := 0) (by rfl)
    have cb1 := hp_cell HBox.out (j := 1) (by rfl)
    go_wp2_with fail
    go_ret
    exact ⟨rfl, HB0.out⟩
  · by_cases g2 : 100 < ys.length
    · rw [show (decide (100 < ps.length) || decide (100 < xs.length)) = false by simp; omega] at HL
      rw [show (decide (100 < ps.length) || decide (100 < ys.length)) = true by simp [g2]] at HL2
      clear g1 g2 HM HP HX HY HT
      have cb0 := hp_cell HBox.out (j := 0) (by rfl)
      have cb1 := hp_cell HBox.out (j := 1) (by rfl)
      go_wp2_with fail
      clear cb0 cb1
      refine (HL.out _).mono ?_
      rintro e we1 ⟨rfl, rfl⟩
      have cb0 := hp_cell HBox.out (j := 0) (by rfl)
      have cb1 := hp_cell HBox.out (j := 1) (by rfl)
      go_wp2_with fail
      clear cb0 cb1
      refine (HL2.out _).mono ?_
      rintro e we2 ⟨rfl, rfl⟩
      have cb0 := hp_cell HBox.out (j := 0) (by rfl)
      have cb1 := hp_cell HBox.out (j := 1) (by rfl)
      go_wp2_with fail
      go_ret
      exact ⟨rfl, HB0.out⟩
    · rw [show (decide (100 < ps.length) || decide (100 < xs.length)) = false by simp; omega] at HL
      rw [show (decide (100 < ps.length) || decide (100 < ys.length)) = false by simp; omega] at HL2
      cases g3 : manyC ts
      case true =>
        rw [g3] at HM
        clear g1 g2 g3 HP HX HY
        have cb0 := hp_cell HBox.out (j := 0) (by rfl)
        have cb1 := hp_cell HBox.out (j := 1) (by rfl)
        go_wp2_with fail
        clear cb0 cb1
        refine (HL.out _).mono ?_
        rintro e we1 ⟨rfl, rfl⟩
        have cb0 := hp_cell HBox.out (j := 0) (by rfl)
        have cb1 := hp_cell HBox.out (j := 1) (by rfl)
        go_wp2_with fail
        clear cb0 cb1
        refine (HL2.out _).mono ?_
        rintro e we2 ⟨rfl, rfl⟩
        have cb0 := hp_cell HBox.out (j := 0) (by rfl)
        have cb1 := hp_cell HBox.out (j := 1) (by rfl)
        go_wp2_with fail
        clear cb0 cb1
        refine (HM.out _ (HT.out.below HB0.out (Nat.le_refl _))).mono ?_
        rintro e w3 ⟨rfl, hB3⟩
        have HBox := Lib.hid (HBox.out.below hB3 (Nat.le_refl _))
        have HB3 := Lib.hid (HB0.out.trans (hB3.mono HB0.out.size))
        clear hB3 HB0 
        have cb0 := hp_cell HBox.out (j := 0) (by rfl)
        have cb1 := hp_cell HBox.out (j := 1) (by rfl)
        go_wp2_with fail
        go_ret
        exact ⟨rfl, HB3.out⟩
      case false =>
        obtain ⟨t50, tml⟩ := manyC_no g3
        rw [g3] at HM
        have hml : ∀ t ∈ ts, t.inn.length ≤ 1000 := fun t h => Nat.le_trans (tml t h) (by decide)
        clear tml g3
        have hp100 : ps.length ≤ 100 := by omega
        have hx100 : xs.length ≤ 100 := by omega
        have hy100 : ys.length ≤ 100 := by omega
        clear g1 g2
        have hql := doP_len ps xs
        have hql2 := doP_len ps ys
        have hql3 := doP_len (doP ps xs) ys
        have hil := inR_len ps xs
        have hcl : (clQ ps xs).length ≤ xs.length := by rw [clQ_R]; exact clR_len ps xs
        have htl := tnR_len xs ys
        have hmg := mgR_len xs ys
        have hth := thL_len ps (doP ps xs) (doP ps ys)
        have hrd : (rdR ps xs ts).length ≤ xs.length := by unfold rdR; split; exact (rd_sub _ _).length_le; simp
        have C1 := Lib.hid (fun w h1 h2 => pDo_any a g ca cg ps xs w h1 h2 (by omega) (by omega))
        have C2 := Lib.hid (fun w h1 h2 => pSize_any a g ca cg ps xs w h1 h2 (by omega) (by omega))
        have C3 := Lib.hid (fun w h1 h2 => pInverse_any a g ca cg ps xs w h1 h2 (by omega) (by omega))
        have C4 := Lib.hid (fun b b' c c' w h1 h2 => pDo_any b b' c c' (doP ps xs) (inR ps xs) w h1 h2 (by omega) (by omega))
        have C5 := Lib.hid (fun w h1 h2 => pClean_any a g ca cg ps xs w h1 h2 (by omega) (by omega))
        have C6 := Lib.hid (fun b c w h1 h2 => pDiff_any a b ca c ps (doP ps xs) w h1 h2 (by omega) (by omega))
        have S1 := Lib.hid (fun a' b' c' d' w h1 h2 => sameL4_self ps.length a' b' c' d' ps w rfl h1 h2 (by omega))
        have S2 := Lib.hid (fun a' b' c' d' w h1 h2 => sameE_self (clQ ps xs).length a' b' c' d' (clQ ps xs) w rfl h1 h2 (by omega))
        have C7 := Lib.hid (fun w h1 h2 => pDo_any a g2 ca cg2 ps ys w h1 h2 (by omega) (by omega))
        have C8 := Lib.hid (fun w h h' => pMerge_any g g2 cg cg2 xs ys w h h' (by omega) (by omega))
        have C9 := Lib.hid (fun w h h' => pThen_any g g2 cg cg2 xs ys w h h' (by omega) (by omega))
        have C10 := Lib.hid (fun b b' c c' w h1 h2 h3 => pThree_any a b b' ca c c' ps (doP ps xs) (doP ps ys) w h1 h2 h3)
        have C11 := Lib.hid (fun b c w h1 h2 => pDo_any a b ca c ps (tnR xs ys) w h1 h2 (by omega) (by omega))
        have C12 := Lib.hid (fun b c w h1 h2 => pDo_any b g2 c cg2 (doP ps xs) ys w h1 h2 (by omega) (by omega))
        have S3 := Lib.hid (fun a' b' c' d' w h1 h2 => sameL4_self (doP (doP ps xs) ys).length a' b' c' d' (doP (doP ps xs) ys) w rfl h1 h2 (by omega))
        have C13 := Lib.hid (fun b c w h1 h2 => pDo_any a b ca c ps (mgR xs ys) w h1 h2 (by omega) (by omega))
        have S4 := Lib.hid (fun a' b' c' d' w h1 h2 => sameL4_self (thL ps (doP ps xs) (doP ps ys)).length a' b' c' d' (thL ps (doP ps xs) (doP ps ys)) w rfl h1 h2 (by omega))
        have C14 := Lib.hid (fun w h1 h2 h3 => pIsGood_any a g h ca cg ch ps xs ts w h1 h2 h3 (by omega) (by omega) hml (by omega))
        have C15 := Lib.hid (fun b c w h1 h2 => failing_any b h c ch (doP ps xs) ts w h1 h2 (by omega) hml)
        have C16 := Lib.hid (fun w h1 h2 h3 => pFixes_any a g h ca cg ch ps xs ts w h1 h2 h3 (by omega) (by omega) hml (by omega))
        have C17 := Lib.hid (fun w h1 h2 h3 => pBreaks_any a g h ca cg ch ps xs ts w h1 h2 h3 (by omega) (by omega) hml (by omega))
        have C18 := Lib.hid (fun w h1 h2 => failing_any a h ca ch ps ts w h1 h2 (by omega) hml)
        have C19 := Lib.hid (fun w h1 h2 h3 => pReduce_any a g h ca cg ch ps xs ts w h1 h2 h3 (by omega) (by omega) hml (by omega))
        have C20 := Lib.hid (fun b c w h1 h2 h3 => pIsGood_any a b h ca c ch ps (rdR ps xs ts) ts w h1 h2 h3 (by omega) (by omega) hml (by omega))
        have C21 := Lib.hid (fun w h1 h2 h3 => pSmallest_any a g h ca cg ch ps xs ts w h1 h2 h3 (by omega) (by omega) hml (by omega))
        have C22 : Hid (∀ z : List E, mnR ps z ts = true → vpx ps z (vts ts) = 0 → z.length ≤ xs.length → ∀ b c w, LinesAt w a ps → EditsAt w b z → TestsAt w h ts → Calls Tryz.prog 40 #[.slice a ps.length ca, .slice b z.length c, .slice h ts.length ch] w fun e w' => e = .returned (.tuple #[.bool true, .int .i64 0]) ∧ Below w.heap.size w w') := Lib.hid fun z e1 e2 hz b c w h1 h2 h3 => by
          have hh := pIsMinimal_any a b h ca c ch ps z ts w h1 h2 h3 (by omega) (by omega) hml (by omega)
          rw [e1, e2] at hh
          exact hh
        clear hml hql hql2 hql3 hil hcl htl hmg hth
        have cb0 := hp_cell HBox.out (j := 0) (by rfl)
        have cb1 := hp_cell HBox.out (j := 1) (by rfl)
        go_wp2_with fail
        clear cb0 cb1
        refine (HL.out _).mono ?_
        rintro e we1 ⟨rfl, rfl⟩
        have cb0 := hp_cell HBox.out (j := 0) (by rfl)
        have cb1 := hp_cell HBox.out (j := 1) (by rfl)
        go_wp2_with fail
        clear cb0 cb1
        refine (HL2.out _).mono ?_
        rintro e we2 ⟨rfl, rfl⟩
        have cb0 := hp_cell HBox.out (j := 0) (by rfl)
        have cb1 := hp_cell HBox.out (j := 1) (by rfl)
        go_wp2_with fail
        clear cb0 cb1
        refine (HM.out _ (HT.out.below HB0.out (Nat.le_refl _))).mono ?_
        rintro e w3 ⟨rfl, hB3⟩
        have HBox := Lib.hid (HBox.out.below hB3 (Nat.le_refl _))
        have HB3 := Lib.hid (HB0.out.trans (hB3.mono HB0.out.size))
        clear hB3 HB0 
        by_cases z1 : vpx ps xs 0 = 0
        · obtain ⟨t1, t2, t3, t4, t5, t6, t7⟩ := tps_do z1
          rw [z1] at C1 C3 C5
          rw [t1, t2] at C4
          rw [t3, t4] at C6
          clear t1 t2 t3 t4 t5 t6 C2
          have cb0 := hp_cell HBox.out (j := 0) (by rfl)
          have cb1 := hp_cell HBox.out (j := 1) (by rfl)
          go_wp2_with fail
          clear cb0 cb1
          refine (C1.out _ (HP.out.below HB3.out (Nat.le_refl _)) (HX.out.below HB3.out (Nat.le_refl _))).mono ?_
          rintro e w4 ⟨a1, k1, rfl, h1, hB4⟩
          have HBox := Lib.hid (HBox.out.below hB4 (Nat.le_refl _))
          have R1 := Lib.hid ((lines_of_own h1).1)
          have HB4 := Lib.hid (HB3.out.trans (hB4.mono HB3.out.size))
          clear hB4 HB3 h1
          have cb0 := hp_cell HBox.out (j := 0) (by rfl)
          have cb1 := hp_cell HBox.out (j := 1) (by rfl)
          go_wp2_with fail
          clear cb0 cb1
          refine (C3.out _ (HP.out.below HB4.out (Nat.le_refl _)) (HX.out.below HB4.out (Nat.le_refl _))).mono ?_
          rintro e w5 ⟨a3, k3, rfl, h3, hB5⟩
          have HBox := Lib.hid (HBox.out.below hB5 (Nat.le_refl _))
          have R1 := Lib.hid (R1.out.below hB5 (Nat.le_refl _))
          have R3 := Lib.hid ((edits_of_own h3).1)
          have HB5 := Lib.hid (HB4.out.trans (hB5.mono HB4.out.size))
          clear hB5 HB4 h3
          have cb0 := hp_cell HBox.out (j := 0) (by rfl)
          have cb1 := hp_cell HBox.out (j := 1) (by rfl)
          go_wp2_with fail
          clear cb0 cb1
          refine (C4.out _ _ _ _ _ R1.out R3.out).mono ?_
          rintro e w6 ⟨a4, k4, rfl, h4, hB6⟩
          have HBox := Lib.hid (HBox.out.below hB6 (Nat.le_refl _))
          have R1 := Lib.hid (R1.out.below hB6 (Nat.le_refl _))
          clear R3
          have R4 := Lib.hid ((lines_of_own h4).1)
          have HB6 := Lib.hid (HB5.out.trans (hB6.mono HB5.out.size))
          clear hB6 HB5 h4
          have cb0 := hp_cell HBox.out (j := 0) (by rfl)
          have cb1 := hp_cell HBox.out (j := 1) (by rfl)
          go_wp2_with fail
          clear cb0 cb1
          refine (C5.out _ (HP.out.below HB6.out (Nat.le_refl _)) (HX.out.below HB6.out (Nat.le_refl _))).mono ?_
          rintro e w7 ⟨a5, k5, rfl, h5, hB7⟩
          have HBox := Lib.hid (HBox.out.below hB7 (Nat.le_refl _))
          have R1 := Lib.hid (R1.out.below hB7 (Nat.le_refl _))
          have R4 := Lib.hid (R4.out.below hB7 (Nat.le_refl _))
          have R5 := Lib.hid ((edits_of_own h5).1)
          have HB7 := Lib.hid (HB6.out.trans (hB7.mono HB6.out.size))
          clear hB7 HB6 h5
          have cb0 := hp_cell HBox.out (j := 0) (by rfl)
          have cb1 := hp_cell HBox.out (j := 1) (by rfl)
          go_wp2_with fail
          clear cb0 cb1
          refine (C6.out _ _ _ (HP.out.below HB7.out (Nat.le_refl _)) R1.out).mono ?_
          rintro e w8 ⟨a6, k6, rfl, h6, hB8⟩
          have HBox := Lib.hid (HBox.out.below hB8 (Nat.le_refl _))
          have R1 := Lib.hid (R1.out.below hB8 (Nat.le_refl _))
          have R4 := Lib.hid (R4.out.below hB8 (Nat.le_refl _))
          have R5 := Lib.hid (R5.out.below hB8 (Nat.le_refl _))
          have R6 := Lib.hid ((edits_of_own h6).1)
          have HB8 := Lib.hid (HB7.out.trans (hB8.mono HB7.out.size))
          clear hB8 HB7 h6
          have cb0 := hp_cell HBox.out (j := 0) (by rfl)
          have cb1 := hp_cell HBox.out (j := 1) (by rfl)
          go_wp2_with fail
          clear cb0 cb1
          refine (S1.out _ _ _ _ _ R4.out (HP.out.below HB8.out (Nat.le_refl _))).mono ?_
          rintro e w9 ⟨rfl, hB9⟩
          have HBox := Lib.hid (HBox.out.below hB9 (Nat.le_refl _))
          have R1 := Lib.hid (R1.out.below hB9 (Nat.le_refl _))
          clear R4
          have R5 := Lib.hid (R5.out.below hB9 (Nat.le_refl _))
          have R6 := Lib.hid (R6.out.below hB9 (Nat.le_refl _))
          have HB9 := Lib.hid (HB8.out.trans (hB9.mono HB8.out.size))
          clear hB9 HB8 
          have cb0 := hp_cell HBox.out (j := 0) (by rfl)
          have cb1 := hp_cell HBox.out (j := 1) (by rfl)
          go_wp2_with fail
          clear cb0 cb1
          refine (S2.out _ _ _ _ _ R6.out R5.out).mono ?_
          rintro e w10 ⟨rfl, hB10⟩
          have HBox := Lib.hid (HBox.out.below hB10 (Nat.le_refl _))
          have R1 := Lib.hid (R1.out.below hB10 (Nat.le_refl _))
          clear R5
          clear R6
          have HB10 := Lib.hid (HB9.out.trans (hB10.mono HB9.out.size))
          clear hB10 HB9 
          by_cases z2 : vpx ps ys 0 = 0
          · rw [z2] at C7
            rw [tps_th z1 z2] at C10
            rw [tps_two z1 z2] at C12
            have cb0 := hp_cell HBox.out (j := 0) (by rfl)
            have cb1 := hp_cell HBox.out (j := 1) (by rfl)
            go_wp2_with fail
            clear cb0 cb1
            refine (C7.out _ (HP.out.below HB10.out (Nat.le_refl _)) (HY.out.below HB10.out (Nat.le_refl _))).mono ?_
            rintro e w11 ⟨a7, k7, rfl, h7, hB11⟩
            have HBox := Lib.hid (HBox.out.below hB11 (Nat.le_refl _))
            have R1 := Lib.hid (R1.out.below hB11 (Nat.le_refl _))
            have R7 := Lib.hid ((lines_of_own h7).1)
            have HB11 := Lib.hid (HB10.out.trans (hB11.mono HB10.out.size))
            clear hB11 HB10 h7
            by_cases z4 : mgC xs ys = 0
            · obtain ⟨m1, m2, m3, m4⟩ := tps_merge z1 z2 z4
              obtain ⟨n1, n2⟩ := tps_then z1 z2 m1
              rw [z4] at C8
              rw [m1] at C9
              rw [n1, n2] at C11
              rw [m2, m3] at C13
              rw [m4] at C10
              clear m1 m2 m3 m4 n1 n2 z4
              have cb0 := hp_cell HBox.out (j := 0) (by rfl)
              have cb1 := hp_cell HBox.out (j := 1) (by rfl)
              go_wp2_with fail
              clear cb0 cb1
              refine (C8.out _ (HX.out.below HB11.out (Nat.le_refl _)) (HY.out.below HB11.out (Nat.le_refl _))).mono ?_
              rintro e w12 ⟨a8, k8, rfl, h8, hB12⟩
              have HBox := Lib.hid (HBox.out.below hB12 (Nat.le_refl _))
              have R1 := Lib.hid (R1.out.below hB12 (Nat.le_refl _))
              have R7 := Lib.hid (R7.out.below hB12 (Nat.le_refl _))
              have R8 := Lib.hid ((edits_of_own h8).1)
              have HB12 := Lib.hid (HB11.out.trans (hB12.mono HB11.out.size))
              clear hB12 HB11 h8
              have cb0 := hp_cell HBox.out (j := 0) (by rfl)
              have cb1 := hp_cell HBox.out (j := 1) (by rfl)
              go_wp2_with fail
              clear cb0 cb1
              refine (C9.out _ (HX.out.below HB12.out (Nat.le_refl _)) (HY.out.below HB12.out (Nat.le_refl _))).mono ?_
              rintro e w13 ⟨a9, k9, rfl, h9, hB13⟩
              have HBox := Lib.hid (HBox.out.below hB13 (Nat.le_refl _))
              have R1 := Lib.hid (R1.out.below hB13 (Nat.le_refl _))
              have R7 := Lib.hid (R7.out.below hB13 (Nat.le_refl _))
              have R8 := Lib.hid (R8.out.below hB13 (Nat.le_refl _))
              have R9 := Lib.hid ((edits_of_own h9).1)
              have HB13 := Lib.hid (HB12.out.trans (hB13.mono HB12.out.size))
              clear hB13 HB12 h9
              have cb0 := hp_cell HBox.out (j := 0) (by rfl)
              have cb1 := hp_cell HBox.out (j := 1) (by rfl)
              go_wp2_with fail
              clear cb0 cb1
              refine (C10.out _ _ _ _ _ (HP.out.below HB13.out (Nat.le_refl _)) R1.out R7.out).mono ?_
              rintro e w14 ⟨a10, k10, b10, m10, rfl, h10, j10, hB14⟩
              have HBox := Lib.hid (HBox.out.below hB14 (Nat.le_refl _))
              have R1 := Lib.hid (R1.out.below hB14 (Nat.le_refl _))
              clear R7
              have R8 := Lib.hid (R8.out.below hB14 (Nat.le_refl _))
              have R9 := Lib.hid (R9.out.below hB14 (Nat.le_refl _))
              have R10 := Lib.hid (h10)
              have HB14 := Lib.hid (HB13.out.trans (hB14.mono HB13.out.size))
              clear hB14 HB13 h10 j10
              simp only [List.length_nil]
              have cb0 := hp_cell HBox.out (j := 0) (by rfl)
              have cb1 := hp_cell HBox.out (j := 1) (by rfl)
              go_wp2_with fail
              clear cb0 cb1
              refine (C11.out _ _ _ (HP.out.below HB14.out (Nat.le_refl _)) R9.out).mono ?_
              rintro e w15 ⟨a11, k11, rfl, h11, hB15⟩
              have HBox := Lib.hid (HBox.out.below hB15 (Nat.le_refl _))
              have R1 := Lib.hid (R1.out.below hB15 (Nat.le_refl _))
              have R8 := Lib.hid (R8.out.below hB15 (Nat.le_refl _))
              clear R9
              have R10 := Lib.hid (R10.out.below hB15 (Nat.le_refl _))
              have R11 := Lib.hid ((lines_of_own h11).1)
              have HB15 := Lib.hid (HB14.out.trans (hB15.mono HB14.out.size))
              clear hB15 HB14 h11
              have cb0 := hp_cell HBox.out (j := 0) (by rfl)
              have cb1 := hp_cell HBox.out (j := 1) (by rfl)
              go_wp2_with fail
              clear cb0 cb1
              refine (C12.out _ _ _ R1.out (HY.out.below HB15.out (Nat.le_refl _))).mono ?_
              rintro e w16 ⟨a12, k12, rfl, h12, hB16⟩
              have HBox := Lib.hid (HBox.out.below hB16 (Nat.le_refl _))
              have R1 := Lib.hid (R1.out.below hB16 (Nat.le_refl _))
              have R8 := Lib.hid (R8.out.below hB16 (Nat.le_refl _))
              have R10 := Lib.hid (R10.out.below hB16 (Nat.le_refl _))
              have R11 := Lib.hid (R11.out.below hB16 (Nat.le_refl _))
              have R12 := Lib.hid ((lines_of_own h12).1)
              have HB16 := Lib.hid (HB15.out.trans (hB16.mono HB15.out.size))
              clear hB16 HB15 h12
              have cb0 := hp_cell HBox.out (j := 0) (by rfl)
              have cb1 := hp_cell HBox.out (j := 1) (by rfl)
              go_wp2_with fail
              clear cb0 cb1
              refine (S3.out _ _ _ _ _ R11.out R12.out).mono ?_
              rintro e w17 ⟨rfl, hB17⟩
              have HBox := Lib.hid (HBox.out.below hB17 (Nat.le_refl _))
              have R1 := Lib.hid (R1.out.below hB17 (Nat.le_refl _))
              have R8 := Lib.hid (R8.out.below hB17 (Nat.le_refl _))
              have R10 := Lib.hid (R10.out.below hB17 (Nat.le_refl _))
              clear R11
              clear R12
              have HB17 := Lib.hid (HB16.out.trans (hB17.mono HB16.out.size))
              clear hB17 HB16 
              have cb0 := hp_cell HBox.out (j := 0) (by rfl)
              have cb1 := hp_cell HBox.out (j := 1) (by rfl)
              go_wp2_with fail
              clear cb0 cb1
              refine (C13.out _ _ _ (HP.out.below HB17.out (Nat.le_refl _)) R8.out).mono ?_
              rintro e w18 ⟨a13, k13, rfl, h13, hB18⟩
              have HBox := Lib.hid (HBox.out.below hB18 (Nat.le_refl _))
              have R1 := Lib.hid (R1.out.below hB18 (Nat.le_refl _))
              clear R8
              have R10 := Lib.hid (R10.out.below hB18 (Nat.le_refl _))
              have R13 := Lib.hid ((lines_of_own h13).1)
              have HB18 := Lib.hid (HB17.out.trans (hB18.mono HB17.out.size))
              clear hB18 HB17 h13
              have cb0 := hp_cell HBox.out (j := 0) (by rfl)
              have cb1 := hp_cell HBox.out (j := 1) (by rfl)
              go_wp2_with fail
              clear cb0 cb1
              refine (S4.out _ _ _ _ _ R13.out R10.out).mono ?_
              rintro e w19 ⟨rfl, hB19⟩
              have HBox := Lib.hid (HBox.out.below hB19 (Nat.le_refl _))
              have R1 := Lib.hid (R1.out.below hB19 (Nat.le_refl _))
              clear R10
              clear R13
              have HB19 := Lib.hid (HB18.out.trans (hB19.mono HB18.out.size))
              clear hB19 HB18 
              by_cases z3 : vpx ps xs (vts ts) = 0
              · obtain ⟨⟨f1, f2, f5, f6, f7, f8, y9⟩, hor⟩ := tps_tail z3
                rw [f2] at C15
                rw [f1] at C18
                rw [z3] at C14 C16 C17 C21
                clear f1 f2
                rcases hor with ⟨z6, y7, y8⟩ | ⟨z6, y7, y8, g1, g3, g4, g2, z, g5, g6, g7, g8⟩
                · rw [z6] at C14
                  clear z3 z6 C19 C20 C21 C22
                  have cb0 := hp_cell HBox.out (j := 0) (by rfl)
                  have cb1 := hp_cell HBox.out (j := 1) (by rfl)
                  go_wp2_with fail
                  clear cb0 cb1
                  refine (C14.out _ (HP.out.below HB19.out (Nat.le_refl _)) (HX.out.below HB19.out (Nat.le_refl _)) (HT.out.below HB19.out (Nat.le_refl _))).mono ?_
                  rintro e w20 ⟨rfl, hB20⟩
                  have HBox := Lib.hid (HBox.out.below hB20 (Nat.le_refl _))
                  have R1 := Lib.hid (R1.out.below hB20 (Nat.le_refl _))
                  have HB20 := Lib.hid (HB19.out.trans (hB20.mono HB19.out.size))
                  clear hB20 HB19 
                  have cb0 := hp_cell HBox.out (j := 0) (by rfl)
                  have cb1 := hp_cell HBox.out (j := 1) (by rfl)
                  go_wp2_with fail
                  clear cb0 cb1
                  refine (C15.out _ _ _ R1.out (HT.out.below HB20.out (Nat.le_refl _))).mono ?_
                  rintro e w21 ⟨a15, k15, rfl, h15, hB21⟩
                  have HBox := Lib.hid (HBox.out.below hB21 (Nat.le_refl _))
                  clear R1
                  have HB21 := Lib.hid (HB20.out.trans (hB21.mono HB20.out.size))
                  clear hB21 HB20 h15
                  have cb0 := hp_cell HBox.out (j := 0) (by rfl)
                  have cb1 := hp_cell HBox.out (j := 1) (by rfl)
                  go_wp2_with fail
                  clear cb0 cb1
                  refine (C16.out _ (HP.out.below HB21.out (Nat.le_refl _)) (HX.out.below HB21.out (Nat.le_refl _)) (HT.out.below HB21.out (Nat.le_refl _))).mono ?_
                  rintro e w22 ⟨a16, k16, rfl, h16, hB22⟩
                  have HBox := Lib.hid (HBox.out.below hB22 (Nat.le_refl _))
                  have HB22 := Lib.hid (HB21.out.trans (hB22.mono HB21.out.size))
                  clear hB22 HB21 h16
                  have cb0 := hp_cell HBox.out (j := 0) (by rfl)
                  have cb1 := hp_cell HBox.out (j := 1) (by rfl)
                  go_wp2_with fail
                  clear cb0 cb1
                  refine (C17.out _ (HP.out.below HB22.out (Nat.le_refl _)) (HX.out.below HB22.out (Nat.le_refl _)) (HT.out.below HB22.out (Nat.le_refl _))).mono ?_
                  rintro e w23 ⟨a17, k17, rfl, h17, hB23⟩
                  have HBox := Lib.hid (HBox.out.below hB23 (Nat.le_refl _))
                  have HB23 := Lib.hid (HB22.out.trans (hB23.mono HB22.out.size))
                  clear hB23 HB22 h17
                  have cb0 := hp_cell HBox.out (j := 0) (by rfl)
                  have cb1 := hp_cell HBox.out (j := 1) (by rfl)
                  go_wp2_with fail
                  clear cb0 cb1
                  refine (C18.out _ (HP.out.below HB23.out (Nat.le_refl _)) (HT.out.below HB23.out (Nat.le_refl _))).mono ?_
                  rintro e w24 ⟨a18, k18, rfl, h18, hB24⟩
                  have HBox := Lib.hid (HBox.out.below hB24 (Nat.le_refl _))
                  have HB24 := Lib.hid (HB23.out.trans (hB24.mono HB23.out.size))
                  clear hB24 HB23 h18
                  have cb0 := hp_cell HBox.out (j := 0) (by rfl)
                  have cb1 := hp_cell HBox.out (j := 1) (by rfl)
                  go_wp2_with fail
                  go_ret
                  exact ⟨rfl, HB24.out⟩
                · rw [z6] at C14
                  rw [g1] at C19
                  rw [g3, g4] at C20
                  rw [g5] at C21
                  have C22 := Lib.hid (C22.out z g7 g8 (Nat.le_trans g6 g2))
                  clear g1 g3 g4 g5 g7 g8 z3 z6
                  have cb0 := hp_cell HBox.out (j := 0) (by rfl)
                  have cb1 := hp_cell HBox.out (j := 1) (by rfl)
                  go_wp2_with fail
                  clear cb0 cb1
                  refine (C14.out _ (HP.out.below HB19.out (Nat.le_refl _)) (HX.out.below HB19.out (Nat.le_refl _)) (HT.out.below HB19.out (Nat.le_refl _))).mono ?_
                  rintro e w20 ⟨rfl, hB20⟩
                  have HBox := Lib.hid (HBox.out.below hB20 (Nat.le_refl _))
                  have R1 := Lib.hid (R1.out.below hB20 (Nat.le_refl _))
                  have HB20 := Lib.hid (HB19.out.trans (hB20.mono HB19.out.size))
                  clear hB20 HB19 
                  have cb0 := hp_cell HBox.out (j := 0) (by rfl)
                  have cb1 := hp_cell HBox.out (j := 1) (by rfl)
                  go_wp2_with fail
                  clear cb0 cb1
                  refine (C15.out _ _ _ R1.out (HT.out.below HB20.out (Nat.le_refl _))).mono ?_
                  rintro e w21 ⟨a15, k15, rfl, h15, hB21⟩
                  have HBox := Lib.hid (HBox.out.below hB21 (Nat.le_refl _))
                  clear R1
                  have HB21 := Lib.hid (HB20.out.trans (hB21.mono HB20.out.size))
                  clear hB21 HB20 h15
                  have cb0 := hp_cell HBox.out (j := 0) (by rfl)
                  have cb1 := hp_cell HBox.out (j := 1) (by rfl)
                  go_wp2_with fail
                  clear cb0 cb1
                  refine (C16.out _ (HP.out.below HB21.out (Nat.le_refl _)) (HX.out.below HB21.out (Nat.le_refl _)) (HT.out.below HB21.out (Nat.le_refl _))).mono ?_
                  rintro e w22 ⟨a16, k16, rfl, h16, hB22⟩
                  have HBox := Lib.hid (HBox.out.below hB22 (Nat.le_refl _))
                  have HB22 := Lib.hid (HB21.out.trans (hB22.mono HB21.out.size))
                  clear hB22 HB21 h16
                  have cb0 := hp_cell HBox.out (j := 0) (by rfl)
                  have cb1 := hp_cell HBox.out (j := 1) (by rfl)
                  go_wp2_with fail
                  clear cb0 cb1
                  refine (C17.out _ (HP.out.below HB22.out (Nat.le_refl _)) (HX.out.below HB22.out (Nat.le_refl _)) (HT.out.below HB22.out (Nat.le_refl _))).mono ?_
                  rintro e w23 ⟨a17, k17, rfl, h17, hB23⟩
                  have HBox := Lib.hid (HBox.out.below hB23 (Nat.le_refl _))
                  have HB23 := Lib.hid (HB22.out.trans (hB23.mono HB22.out.size))
                  clear hB23 HB22 h17
                  have cb0 := hp_cell HBox.out (j := 0) (by rfl)
                  have cb1 := hp_cell HBox.out (j := 1) (by rfl)
                  go_wp2_with fail
                  clear cb0 cb1
                  refine (C18.out _ (HP.out.below HB23.out (Nat.le_refl _)) (HT.out.below HB23.out (Nat.le_refl _))).mono ?_
                  rintro e w24 ⟨a18, k18, rfl, h18, hB24⟩
                  have HBox := Lib.hid (HBox.out.below hB24 (Nat.le_refl _))
                  have HB24 := Lib.hid (HB23.out.trans (hB24.mono HB23.out.size))
                  clear hB24 HB23 h18
                  have cb0 := hp_cell HBox.out (j := 0) (by rfl)
                  have cb1 := hp_cell HBox.out (j := 1) (by rfl)
                  go_wp2_with fail
                  clear cb0 cb1
                  refine (C19.out _ (HP.out.below HB24.out (Nat.le_refl _)) (HX.out.below HB24.out (Nat.le_refl _)) (HT.out.below HB24.out (Nat.le_refl _))).mono ?_
                  rintro e w25 ⟨a19, k19, rfl, h19, hB25⟩
                  have HBox := Lib.hid (HBox.out.below hB25 (Nat.le_refl _))
                  have R19 := Lib.hid ((edits_of_own h19).1)
                  have HB25 := Lib.hid (HB24.out.trans (hB25.mono HB24.out.size))
                  clear hB25 HB24 h19
                  have cb0 := hp_cell HBox.out (j := 0) (by rfl)
                  have cb1 := hp_cell HBox.out (j := 1) (by rfl)
                  go_wp2_with fail
                  clear cb0 cb1
                  refine (C20.out _ _ _ (HP.out.below HB25.out (Nat.le_refl _)) R19.out (HT.out.below HB25.out (Nat.le_refl _))).mono ?_
                  rintro e w26 ⟨rfl, hB26⟩
                  have HBox := Lib.hid (HBox.out.below hB26 (Nat.le_refl _))
                  clear R19
                  have HB26 := Lib.hid (HB25.out.trans (hB26.mono HB25.out.size))
                  clear hB26 HB25 
                  have cb0 := hp_cell HBox.out (j := 0) (by rfl)
                  have cb1 := hp_cell HBox.out (j := 1) (by rfl)
                  go_wp2_with fail
                  clear cb0 cb1
                  refine (C21.out _ (HP.out.below HB26.out (Nat.le_refl _)) (HX.out.below HB26.out (Nat.le_refl _)) (HT.out.below HB26.out (Nat.le_refl _))).mono ?_
                  rintro e w27 ⟨a21, k21, rfl, h21, hB27⟩
                  have HBox := Lib.hid (HBox.out.below hB27 (Nat.le_refl _))
                  have R21 := Lib.hid (h21)
                  have HB27 := Lib.hid (HB26.out.trans (hB27.mono HB26.out.size))
                  clear hB27 HB26 h21
                  simp only [Option.isSome, Option.getD]
                  replace R21 : Hid (EditsAt _ a21 z) := R21
                  have cb0 := hp_cell HBox.out (j := 0) (by rfl)
                  have cb1 := hp_cell HBox.out (j := 1) (by rfl)
                  go_wp2_with fail
                  clear cb0 cb1
                  refine (C22.out _ _ _ (HP.out.below HB27.out (Nat.le_refl _)) R21.out (HT.out.below HB27.out (Nat.le_refl _))).mono ?_
                  rintro e w28 ⟨rfl, hB28⟩
                  have HBox := Lib.hid (HBox.out.below hB28 (Nat.le_refl _))
                  clear R21
                  have HB28 := Lib.hid (HB27.out.trans (hB28.mono HB27.out.size))
                  clear hB28 HB27 
                  have cb0 := hp_cell HBox.out (j := 0) (by rfl)
                  have cb1 := hp_cell HBox.out (j := 1) (by rfl)
                  go_wp2_with fail
                  go_ret
                  exact ⟨rfl, HB28.out⟩
              · rw [show gdR ps xs ts = false by unfold gdR; rw [if_neg z3]] at C14
                have y3 : (vpx ps xs (vts ts) != 0) = true := by simpa using z3
                clear z3
                generalize vpx ps xs (vts ts) = c14 at *
                have cb0 := hp_cell HBox.out (j := 0) (by rfl)
                have cb1 := hp_cell HBox.out (j := 1) (by rfl)
                go_wp2_with fail
                clear cb0 cb1
                refine (C14.out _ (HP.out.below HB19.out (Nat.le_refl _)) (HX.out.below HB19.out (Nat.le_refl _)) (HT.out.below HB19.out (Nat.le_refl _))).mono ?_
                rintro e w20 ⟨rfl, hB20⟩
                have HBox := Lib.hid (HBox.out.below hB20 (Nat.le_refl _))
                clear R1
                have HB20 := Lib.hid (HB19.out.trans (hB20.mono HB19.out.size))
                clear hB20 HB19 
                have cb0 := hp_cell HBox.out (j := 0) (by rfl)
                have cb1 := hp_cell HBox.out (j := 1) (by rfl)
                go_wp2_with fail
                go_ret
                exact ⟨rfl, HB20.out⟩
            · by_cases z5 : tnE xs ys = 0
              · obtain ⟨n1, n2⟩ := tps_then z1 z2 z5
                rw [z5] at C9
                rw [n1, n2] at C11
                have y4 : (mgC xs ys == 0) = false := by simpa using z4
                clear C13 S4 z4 z5 n1 n2
                generalize mgC xs ys = c8 at *
                generalize mgR xs ys = r8 at *
                generalize thN ps (doP ps xs) (doP ps ys) = n10 at *
                generalize thL ps (doP ps xs) (doP ps ys) = l10 at *
                have cb0 := hp_cell HBox.out (j := 0) (by rfl)
                have cb1 := hp_cell HBox.out (j := 1) (by rfl)
                go_wp2_with fail
                clear cb0 cb1
                refine (C8.out _ (HX.out.below HB11.out (Nat.le_refl _)) (HY.out.below HB11.out (Nat.le_refl _))).mono ?_
                rintro e w12 ⟨a8, k8, rfl, h8, hB12⟩
                have HBox := Lib.hid (HBox.out.below hB12 (Nat.le_refl _))
                have R1 := Lib.hid (R1.out.below hB12 (Nat.le_refl _))
                have R7 := Lib.hid (R7.out.below hB12 (Nat.le_refl _))
                have R8 := Lib.hid ((edits_of_own h8).1)
                have HB12 := Lib.hid (HB11.out.trans (hB12.mono HB11.out.size))
                clear hB12 HB11 h8
                have cb0 := hp_cell HBox.out (j := 0) (by rfl)
                have cb1 := hp_cell HBox.out (j := 1) (by rfl)
                go_wp2_with fail
                clear cb0 cb1
                refine (C9.out _ (HX.out.below HB12.out (Nat.le_refl _)) (HY.out.below HB12.out (Nat.le_refl _))).mono ?_
                rintro e w13 ⟨a9, k9, rfl, h9, hB13⟩
                have HBox := Lib.hid (HBox.out.below hB13 (Nat.le_refl _))
                have R1 := Lib.hid (R1.out.below hB13 (Nat.le_refl _))
                have R7 := Lib.hid (R7.out.below hB13 (Nat.le_refl _))
                clear R8
                have R9 := Lib.hid ((edits_of_own h9).1)
                have HB13 := Lib.hid (HB12.out.trans (hB13.mono HB12.out.size))
                clear hB13 HB12 h9
                have cb0 := hp_cell HBox.out (j := 0) (by rfl)
                have cb1 := hp_cell HBox.out (j := 1) (by rfl)
                go_wp2_with fail
                clear cb0 cb1
                refine (C10.out _ _ _ _ _ (HP.out.below HB13.out (Nat.le_refl _)) R1.out R7.out).mono ?_
                rintro e w14 ⟨a10, k10, b10, m10, rfl, h10, j10, hB14⟩
                have HBox := Lib.hid (HBox.out.below hB14 (Nat.le_refl _))
                have R1 := Lib.hid (R1.out.below hB14 (Nat.le_refl _))
                clear R7
                have R9 := Lib.hid (R9.out.below hB14 (Nat.le_refl _))
                have R10 := Lib.hid (h10)
                have HB14 := Lib.hid (HB13.out.trans (hB14.mono HB13.out.size))
                clear hB14 HB13 h10 j10
                have cb0 := hp_cell HBox.out (j := 0) (by rfl)
                have cb1 := hp_cell HBox.out (j := 1) (by rfl)
                go_wp2_with fail
                clear cb0 cb1
                refine (C11.out _ _ _ (HP.out.below HB14.out (Nat.le_refl _)) R9.out).mono ?_
                rintro e w15 ⟨a11, k11, rfl, h11, hB15⟩
                have HBox := Lib.hid (HBox.out.below hB15 (Nat.le_refl _))
                have R1 := Lib.hid (R1.out.below hB15 (Nat.le_refl _))
                clear R9
                clear R10
                have R11 := Lib.hid ((lines_of_own h11).1)
                have HB15 := Lib.hid (HB14.out.trans (hB15.mono HB14.out.size))
                clear hB15 HB14 h11
                have cb0 := hp_cell HBox.out (j := 0) (by rfl)
                have cb1 := hp_cell HBox.out (j := 1) (by rfl)
                go_wp2_with fail
                clear cb0 cb1
                refine (C12.out _ _ _ R1.out (HY.out.below HB15.out (Nat.le_refl _))).mono ?_
                rintro e w16 ⟨a12, k12, rfl, h12, hB16⟩
                have HBox := Lib.hid (HBox.out.below hB16 (Nat.le_refl _))
                have R1 := Lib.hid (R1.out.below hB16 (Nat.le_refl _))
                have R11 := Lib.hid (R11.out.below hB16 (Nat.le_refl _))
                have R12 := Lib.hid ((lines_of_own h12).1)
                have HB16 := Lib.hid (HB15.out.trans (hB16.mono HB15.out.size))
                clear hB16 HB15 h12
                have cb0 := hp_cell HBox.out (j := 0) (by rfl)
                have cb1 := hp_cell HBox.out (j := 1) (by rfl)
                go_wp2_with fail
                clear cb0 cb1
                refine (S3.out _ _ _ _ _ R11.out R12.out).mono ?_
                rintro e w17 ⟨rfl, hB17⟩
                have HBox := Lib.hid (HBox.out.below hB17 (Nat.le_refl _))
                have R1 := Lib.hid (R1.out.below hB17 (Nat.le_refl _))
                clear R11
                clear R12
                have HB17 := Lib.hid (HB16.out.trans (hB17.mono HB16.out.size))
                clear hB17 HB16 
                by_cases z3 : vpx ps xs (vts ts) = 0
                · obtain ⟨⟨f1, f2, f5, f6, f7, f8, y9⟩, hor⟩ := tps_tail z3
                  rw [f2] at C15
                  rw [f1] at C18
                  rw [z3] at C14 C16 C17 C21
                  clear f1 f2
                  rcases hor with ⟨z6, y7, y8⟩ | ⟨z6, y7, y8, g1, g3, g4, g2, z, g5, g6, g7, g8⟩
                  · rw [z6] at C14
                    clear z3 z6 C19 C20 C21 C22
                    have cb0 := hp_cell HBox.out (j := 0) (by rfl)
                    have cb1 := hp_cell HBox.out (j := 1) (by rfl)
                    go_wp2_with fail
                    clear cb0 cb1
                    refine (C14.out _ (HP.out.below HB17.out (Nat.le_refl _)) (HX.out.below HB17.out (Nat.le_refl _)) (HT.out.below HB17.out (Nat.le_refl _))).mono ?_
                    rintro e w18 ⟨rfl, hB18⟩
                    have HBox := Lib.hid (HBox.out.below hB18 (Nat.le_refl _))
                    have R1 := Lib.hid (R1.out.below hB18 (Nat.le_refl _))
                    have HB18 := Lib.hid (HB17.out.trans (hB18.mono HB17.out.size))
                    clear hB18 HB17 
                    have cb0 := hp_cell HBox.out (j := 0) (by rfl)
                    have cb1 := hp_cell HBox.out (j := 1) (by rfl)
                    go_wp2_with fail
                    clear cb0 cb1
                    refine (C15.out _ _ _ R1.out (HT.out.below HB18.out (Nat.le_refl _))).mono ?_
                    rintro e w19 ⟨a15, k15, rfl, h15, hB19⟩
                    have HBox := Lib.hid (HBox.out.below hB19 (Nat.le_refl _))
                    clear R1
                    have HB19 := Lib.hid (HB18.out.trans (hB19.mono HB18.out.size))
                    clear hB19 HB18 h15
                    have cb0 := hp_cell HBox.out (j := 0) (by rfl)
                    have cb1 := hp_cell HBox.out (j := 1) (by rfl)
                    go_wp2_with fail
                    clear cb0 cb1
                    refine (C16.out _ (HP.out.below HB19.out (Nat.le_refl _)) (HX.out.below HB19.out (Nat.le_refl _)) (HT.out.below HB19.out (Nat.le_refl _))).mono ?_
                    rintro e w20 ⟨a16, k16, rfl, h16, hB20⟩
                    have HBox := Lib.hid (HBox.out.below hB20 (Nat.le_refl _))
                    have HB20 := Lib.hid (HB19.out.trans (hB20.mono HB19.out.size))
                    clear hB20 HB19 h16
                    have cb0 := hp_cell HBox.out (j := 0) (by rfl)
                    have cb1 := hp_cell HBox.out (j := 1) (by rfl)
                    go_wp2_with fail
                    clear cb0 cb1
                    refine (C17.out _ (HP.out.below HB20.out (Nat.le_refl _)) (HX.out.below HB20.out (Nat.le_refl _)) (HT.out.below HB20.out (Nat.le_refl _))).mono ?_
                    rintro e w21 ⟨a17, k17, rfl, h17, hB21⟩
                    have HBox := Lib.hid (HBox.out.below hB21 (Nat.le_refl _))
                    have HB21 := Lib.hid (HB20.out.trans (hB21.mono HB20.out.size))
                    clear hB21 HB20 h17
                    have cb0 := hp_cell HBox.out (j := 0) (by rfl)
                    have cb1 := hp_cell HBox.out (j := 1) (by rfl)
                    go_wp2_with fail
                    clear cb0 cb1
                    refine (C18.out _ (HP.out.below HB21.out (Nat.le_refl _)) (HT.out.below HB21.out (Nat.le_refl _))).mono ?_
                    rintro e w22 ⟨a18, k18, rfl, h18, hB22⟩
                    have HBox := Lib.hid (HBox.out.below hB22 (Nat.le_refl _))
                    have HB22 := Lib.hid (HB21.out.trans (hB22.mono HB21.out.size))
                    clear hB22 HB21 h18
                    have cb0 := hp_cell HBox.out (j := 0) (by rfl)
                    have cb1 := hp_cell HBox.out (j := 1) (by rfl)
                    go_wp2_with fail
                    go_ret
                    exact ⟨rfl, HB22.out⟩
                  · rw [z6] at C14
                    rw [g1] at C19
                    rw [g3, g4] at C20
                    rw [g5] at C21
                    have C22 := Lib.hid (C22.out z g7 g8 (Nat.le_trans g6 g2))
                    clear g1 g3 g4 g5 g7 g8 z3 z6
                    have cb0 := hp_cell HBox.out (j := 0) (by rfl)
                    have cb1 := hp_cell HBox.out (j := 1) (by rfl)
                    go_wp2_with fail
                    clear cb0 cb1
                    refine (C14.out _ (HP.out.below HB17.out (Nat.le_refl _)) (HX.out.below HB17.out (Nat.le_refl _)) (HT.out.below HB17.out (Nat.le_refl _))).mono ?_
                    rintro e w18 ⟨rfl, hB18⟩
                    have HBox := Lib.hid (HBox.out.below hB18 (Nat.le_refl _))
                    have R1 := Lib.hid (R1.out.below hB18 (Nat.le_refl _))
                    have HB18 := Lib.hid (HB17.out.trans (hB18.mono HB17.out.size))
                    clear hB18 HB17 
                    have cb0 := hp_cell HBox.out (j := 0) (by rfl)
                    have cb1 := hp_cell HBox.out (j := 1) (by rfl)
                    go_wp2_with fail
                    clear cb0 cb1
                    refine (C15.out _ _ _ R1.out (HT.out.below HB18.out (Nat.le_refl _))).mono ?_
                    rintro e w19 ⟨a15, k15, rfl, h15, hB19⟩
                    have HBox := Lib.hid (HBox.out.below hB19 (Nat.le_refl _))
                    clear R1
                    have HB19 := Lib.hid (HB18.out.trans (hB19.mono HB18.out.size))
                    clear hB19 HB18 h15
                    have cb0 := hp_cell HBox.out (j := 0) (by rfl)
                    have cb1 := hp_cell HBox.out (j := 1) (by rfl)
                    go_wp2_with fail
                    clear cb0 cb1
                    refine (C16.out _ (HP.out.below HB19.out (Nat.le_refl _)) (HX.out.below HB19.out (Nat.le_refl _)) (HT.out.below HB19.out (Nat.le_refl _))).mono ?_
                    rintro e w20 ⟨a16, k16, rfl, h16, hB20⟩
                    have HBox := Lib.hid (HBox.out.below hB20 (Nat.le_refl _))
                    have HB20 := Lib.hid (HB19.out.trans (hB20.mono HB19.out.size))
                    clear hB20 HB19 h16
                    have cb0 := hp_cell HBox.out (j := 0) (by rfl)
                    have cb1 := hp_cell HBox.out (j := 1) (by rfl)
                    go_wp2_with fail
                    clear cb0 cb1
                    refine (C17.out _ (HP.out.below HB20.out (Nat.le_refl _)) (HX.out.below HB20.out (Nat.le_refl _)) (HT.out.below HB20.out (Nat.le_refl _))).mono ?_
                    rintro e w21 ⟨a17, k17, rfl, h17, hB21⟩
                    have HBox := Lib.hid (HBox.out.below hB21 (Nat.le_refl _))
                    have HB21 := Lib.hid (HB20.out.trans (hB21.mono HB20.out.size))
                    clear hB21 HB20 h17
                    have cb0 := hp_cell HBox.out (j := 0) (by rfl)
                    have cb1 := hp_cell HBox.out (j := 1) (by rfl)
                    go_wp2_with fail
                    clear cb0 cb1
                    refine (C18.out _ (HP.out.below HB21.out (Nat.le_refl _)) (HT.out.below HB21.out (Nat.le_refl _))).mono ?_
                    rintro e w22 ⟨a18, k18, rfl, h18, hB22⟩
                    have HBox := Lib.hid (HBox.out.below hB22 (Nat.le_refl _))
                    have HB22 := Lib.hid (HB21.out.trans (hB22.mono HB21.out.size))
                    clear hB22 HB21 h18
                    have cb0 := hp_cell HBox.out (j := 0) (by rfl)
                    have cb1 := hp_cell HBox.out (j := 1) (by rfl)
                    go_wp2_with fail
                    clear cb0 cb1
                    refine (C19.out _ (HP.out.below HB22.out (Nat.le_refl _)) (HX.out.below HB22.out (Nat.le_refl _)) (HT.out.below HB22.out (Nat.le_refl _))).mono ?_
                    rintro e w23 ⟨a19, k19, rfl, h19, hB23⟩
                    have HBox := Lib.hid (HBox.out.below hB23 (Nat.le_refl _))
                    have R19 := Lib.hid ((edits_of_own h19).1)
                    have HB23 := Lib.hid (HB22.out.trans (hB23.mono HB22.out.size))
                    clear hB23 HB22 h19
                    have cb0 := hp_cell HBox.out (j := 0) (by rfl)
                    have cb1 := hp_cell HBox.out (j := 1) (by rfl)
                    go_wp2_with fail
                    clear cb0 cb1
                    refine (C20.out _ _ _ (HP.out.below HB23.out (Nat.le_refl _)) R19.out (HT.out.below HB23.out (Nat.le_refl _))).mono ?_
                    rintro e w24 ⟨rfl, hB24⟩
                    have HBox := Lib.hid (HBox.out.below hB24 (Nat.le_refl _))
                    clear R19
                    have HB24 := Lib.hid (HB23.out.trans (hB24.mono HB23.out.size))
                    clear hB24 HB23 
                    have cb0 := hp_cell HBox.out (j := 0) (by rfl)
                    have cb1 := hp_cell HBox.out (j := 1) (by rfl)
                    go_wp2_with fail
                    clear cb0 cb1
                    refine (C21.out _ (HP.out.below HB24.out (Nat.le_refl _)) (HX.out.below HB24.out (Nat.le_refl _)) (HT.out.below HB24.out (Nat.le_refl _))).mono ?_
                    rintro e w25 ⟨a21, k21, rfl, h21, hB25⟩
                    have HBox := Lib.hid (HBox.out.below hB25 (Nat.le_refl _))
                    have R21 := Lib.hid (h21)
                    have HB25 := Lib.hid (HB24.out.trans (hB25.mono HB24.out.size))
                    clear hB25 HB24 h21
                    simp only [Option.isSome, Option.getD]
                    replace R21 : Hid (EditsAt _ a21 z) := R21
                    have cb0 := hp_cell HBox.out (j := 0) (by rfl)
                    have cb1 := hp_cell HBox.out (j := 1) (by rfl)
                    go_wp2_with fail
                    clear cb0 cb1
                    refine (C22.out _ _ _ (HP.out.below HB25.out (Nat.le_refl _)) R21.out (HT.out.below HB25.out (Nat.le_refl _))).mono ?_
                    rintro e w26 ⟨rfl, hB26⟩
                    have HBox := Lib.hid (HBox.out.below hB26 (Nat.le_refl _))
                    clear R21
                    have HB26 := Lib.hid (HB25.out.trans (hB26.mono HB25.out.size))
                    clear hB26 HB25 
                    have cb0 := hp_cell HBox.out (j := 0) (by rfl)
                    have cb1 := hp_cell HBox.out (j := 1) (by rfl)
                    go_wp2_with fail
                    go_ret
                    exact ⟨rfl, HB26.out⟩
                · rw [show gdR ps xs ts = false by unfold gdR; rw [if_neg z3]] at C14
                  have y3 : (vpx ps xs (vts ts) != 0) = true := by simpa using z3
                  clear z3
                  generalize vpx ps xs (vts ts) = c14 at *
                  have cb0 := hp_cell HBox.out (j := 0) (by rfl)
                  have cb1 := hp_cell HBox.out (j := 1) (by rfl)
                  go_wp2_with fail
                  clear cb0 cb1
                  refine (C14.out _ (HP.out.below HB17.out (Nat.le_refl _)) (HX.out.below HB17.out (Nat.le_refl _)) (HT.out.below HB17.out (Nat.le_refl _))).mono ?_
                  rintro e w18 ⟨rfl, hB18⟩
                  have HBox := Lib.hid (HBox.out.below hB18 (Nat.le_refl _))
                  clear R1
                  have HB18 := Lib.hid (HB17.out.trans (hB18.mono HB17.out.size))
                  clear hB18 HB17 
                  have cb0 := hp_cell HBox.out (j := 0) (by rfl)
                  have cb1 := hp_cell HBox.out (j := 1) (by rfl)
                  go_wp2_with fail
                  go_ret
                  exact ⟨rfl, HB18.out⟩
              · have y4 : (mgC xs ys == 0) = false := by simpa using z4
                have y5 : (tnE xs ys == 0) = false := by simpa using z5
                clear C11 C12 C13 S3 S4 z4 z5
                generalize mgC xs ys = c8 at *
                generalize tnE xs ys = c9 at *
                generalize mgR xs ys = r8 at *
                generalize tnR xs ys = r9 at *
                generalize thN ps (doP ps xs) (doP ps ys) = n10 at *
                generalize thL ps (doP ps xs) (doP ps ys) = l10 at *
                have cb0 := hp_cell HBox.out (j := 0) (by rfl)
                have cb1 := hp_cell HBox.out (j := 1) (by rfl)
                go_wp2_with fail
                clear cb0 cb1
                refine (C8.out _ (HX.out.below HB11.out (Nat.le_refl _)) (HY.out.below HB11.out (Nat.le_refl _))).mono ?_
                rintro e w12 ⟨a8, k8, rfl, h8, hB12⟩
                have HBox := Lib.hid (HBox.out.below hB12 (Nat.le_refl _))
                have R1 := Lib.hid (R1.out.below hB12 (Nat.le_refl _))
                have R7 := Lib.hid (R7.out.below hB12 (Nat.le_refl _))
                have R8 := Lib.hid ((edits_of_own h8).1)
                have HB12 := Lib.hid (HB11.out.trans (hB12.mono HB11.out.size))
                clear hB12 HB11 h8
                have cb0 := hp_cell HBox.out (j := 0) (by rfl)
                have cb1 := hp_cell HBox.out (j := 1) (by rfl)
                go_wp2_with fail
                clear cb0 cb1
                refine (C9.out _ (HX.out.below HB12.out (Nat.le_refl _)) (HY.out.below HB12.out (Nat.le_refl _))).mono ?_
                rintro e w13 ⟨a9, k9, rfl, h9, hB13⟩
                have HBox := Lib.hid (HBox.out.below hB13 (Nat.le_refl _))
                have R1 := Lib.hid (R1.out.below hB13 (Nat.le_refl _))
                have R7 := Lib.hid (R7.out.below hB13 (Nat.le_refl _))
                clear R8
                have R9 := Lib.hid ((edits_of_own h9).1)
                have HB13 := Lib.hid (HB12.out.trans (hB13.mono HB12.out.size))
                clear hB13 HB12 h9
                have cb0 := hp_cell HBox.out (j := 0) (by rfl)
                have cb1 := hp_cell HBox.out (j := 1) (by rfl)
                go_wp2_with fail
                clear cb0 cb1
                refine (C10.out _ _ _ _ _ (HP.out.below HB13.out (Nat.le_refl _)) R1.out R7.out).mono ?_
                rintro e w14 ⟨a10, k10, b10, m10, rfl, h10, j10, hB14⟩
                have HBox := Lib.hid (HBox.out.below hB14 (Nat.le_refl _))
                have R1 := Lib.hid (R1.out.below hB14 (Nat.le_refl _))
                clear R7
                clear R9
                have R10 := Lib.hid (h10)
                have HB14 := Lib.hid (HB13.out.trans (hB14.mono HB13.out.size))
                clear hB14 HB13 h10 j10
                by_cases z3 : vpx ps xs (vts ts) = 0
                · obtain ⟨⟨f1, f2, f5, f6, f7, f8, y9⟩, hor⟩ := tps_tail z3
                  rw [f2] at C15
                  rw [f1] at C18
                  rw [z3] at C14 C16 C17 C21
                  clear f1 f2
                  rcases hor with ⟨z6, y7, y8⟩ | ⟨z6, y7, y8, g1, g3, g4, g2, z, g5, g6, g7, g8⟩
                  · rw [z6] at C14
                    clear z3 z6 C19 C20 C21 C22
                    have cb0 := hp_cell HBox.out (j := 0) (by rfl)
                    have cb1 := hp_cell HBox.out (j := 1) (by rfl)
                    go_wp2_with fail
                    clear cb0 cb1
                    refine (C14.out _ (HP.out.below HB14.out (Nat.le_refl _)) (HX.out.below HB14.out (Nat.le_refl _)) (HT.out.below HB14.out (Nat.le_refl _))).mono ?_
                    rintro e w15 ⟨rfl, hB15⟩
                    have HBox := Lib.hid (HBox.out.below hB15 (Nat.le_refl _))
                    have R1 := Lib.hid (R1.out.below hB15 (Nat.le_refl _))
                    clear R10
                    have HB15 := Lib.hid (HB14.out.trans (hB15.mono HB14.out.size))
                    clear hB15 HB14 
                    have cb0 := hp_cell HBox.out (j := 0) (by rfl)
                    have cb1 := hp_cell HBox.out (j := 1) (by rfl)
                    go_wp2_with fail
                    clear cb0 cb1
                    refine (C15.out _ _ _ R1.out (HT.out.below HB15.out (Nat.le_refl _))).mono ?_
                    rintro e w16 ⟨a15, k15, rfl, h15, hB16⟩
                    have HBox := Lib.hid (HBox.out.below hB16 (Nat.le_refl _))
                    clear R1
                    have HB16 := Lib.hid (HB15.out.trans (hB16.mono HB15.out.size))
                    clear hB16 HB15 h15
                    have cb0 := hp_cell HBox.out (j := 0) (by rfl)
                    have cb1 := hp_cell HBox.out (j := 1) (by rfl)
                    go_wp2_with fail
                    clear cb0 cb1
                    refine (C16.out _ (HP.out.below HB16.out (Nat.le_refl _)) (HX.out.below HB16.out (Nat.le_refl _)) (HT.out.below HB16.out (Nat.le_refl _))).mono ?_
                    rintro e w17 ⟨a16, k16, rfl, h16, hB17⟩
                    have HBox := Lib.hid (HBox.out.below hB17 (Nat.le_refl _))
                    have HB17 := Lib.hid (HB16.out.trans (hB17.mono HB16.out.size))
                    clear hB17 HB16 h16
                    have cb0 := hp_cell HBox.out (j := 0) (by rfl)
                    have cb1 := hp_cell HBox.out (j := 1) (by rfl)
                    go_wp2_with fail
                    clear cb0 cb1
                    refine (C17.out _ (HP.out.below HB17.out (Nat.le_refl _)) (HX.out.below HB17.out (Nat.le_refl _)) (HT.out.below HB17.out (Nat.le_refl _))).mono ?_
                    rintro e w18 ⟨a17, k17, rfl, h17, hB18⟩
                    have HBox := Lib.hid (HBox.out.below hB18 (Nat.le_refl _))
                    have HB18 := Lib.hid (HB17.out.trans (hB18.mono HB17.out.size))
                    clear hB18 HB17 h17
                    have cb0 := hp_cell HBox.out (j := 0) (by rfl)
                    have cb1 := hp_cell HBox.out (j := 1) (by rfl)
                    go_wp2_with fail
                    clear cb0 cb1
                    refine (C18.out _ (HP.out.below HB18.out (Nat.le_refl _)) (HT.out.below HB18.out (Nat.le_refl _))).mono ?_
                    rintro e w19 ⟨a18, k18, rfl, h18, hB19⟩
                    have HBox := Lib.hid (HBox.out.below hB19 (Nat.le_refl _))
                    have HB19 := Lib.hid (HB18.out.trans (hB19.mono HB18.out.size))
                    clear hB19 HB18 h18
                    have cb0 := hp_cell HBox.out (j := 0) (by rfl)
                    have cb1 := hp_cell HBox.out (j := 1) (by rfl)
                    go_wp2_with fail
                    go_ret
                    exact ⟨rfl, HB19.out⟩
                  · rw [z6] at C14
                    rw [g1] at C19
                    rw [g3, g4] at C20
                    rw [g5] at C21
                    have C22 := Lib.hid (C22.out z g7 g8 (Nat.le_trans g6 g2))
                    clear g1 g3 g4 g5 g7 g8 z3 z6
                    have cb0 := hp_cell HBox.out (j := 0) (by rfl)
                    have cb1 := hp_cell HBox.out (j := 1) (by rfl)
                    go_wp2_with fail
                    clear cb0 cb1
                    refine (C14.out _ (HP.out.below HB14.out (Nat.le_refl _)) (HX.out.below HB14.out (Nat.le_refl _)) (HT.out.below HB14.out (Nat.le_refl _))).mono ?_
                    rintro e w15 ⟨rfl, hB15⟩
                    have HBox := Lib.hid (HBox.out.below hB15 (Nat.le_refl _))
                    have R1 := Lib.hid (R1.out.below hB15 (Nat.le_refl _))
                    clear R10
                    have HB15 := Lib.hid (HB14.out.trans (hB15.mono HB14.out.size))
                    clear hB15 HB14 
                    have cb0 := hp_cell HBox.out (j := 0) (by rfl)
                    have cb1 := hp_cell HBox.out (j := 1) (by rfl)
                    go_wp2_with fail
                    clear cb0 cb1
                    refine (C15.out _ _ _ R1.out (HT.out.below HB15.out (Nat.le_refl _))).mono ?_
                    rintro e w16 ⟨a15, k15, rfl, h15, hB16⟩
                    have HBox := Lib.hid (HBox.out.below hB16 (Nat.le_refl _))
                    clear R1
                    have HB16 := Lib.hid (HB15.out.trans (hB16.mono HB15.out.size))
                    clear hB16 HB15 h15
                    have cb0 := hp_cell HBox.out (j := 0) (by rfl)
                    have cb1 := hp_cell HBox.out (j := 1) (by rfl)
                    go_wp2_with fail
                    clear cb0 cb1
                    refine (C16.out _ (HP.out.below HB16.out (Nat.le_refl _)) (HX.out.below HB16.out (Nat.le_refl _)) (HT.out.below HB16.out (Nat.le_refl _))).mono ?_
                    rintro e w17 ⟨a16, k16, rfl, h16, hB17⟩
                    have HBox := Lib.hid (HBox.out.below hB17 (Nat.le_refl _))
                    have HB17 := Lib.hid (HB16.out.trans (hB17.mono HB16.out.size))
                    clear hB17 HB16 h16
                    have cb0 := hp_cell HBox.out (j := 0) (by rfl)
                    have cb1 := hp_cell HBox.out (j := 1) (by rfl)
                    go_wp2_with fail
                    clear cb0 cb1
                    refine (C17.out _ (HP.out.below HB17.out (Nat.le_refl _)) (HX.out.below HB17.out (Nat.le_refl _)) (HT.out.below HB17.out (Nat.le_refl _))).mono ?_
                    rintro e w18 ⟨a17, k17, rfl, h17, hB18⟩
                    have HBox := Lib.hid (HBox.out.below hB18 (Nat.le_refl _))
                    have HB18 := Lib.hid (HB17.out.trans (hB18.mono HB17.out.size))
                    clear hB18 HB17 h17
                    have cb0 := hp_cell HBox.out (j := 0) (by rfl)
                    have cb1 := hp_cell HBox.out (j := 1) (by rfl)
                    go_wp2_with fail
                    clear cb0 cb1
                    refine (C18.out _ (HP.out.below HB18.out (Nat.le_refl _)) (HT.out.below HB18.out (Nat.le_refl _))).mono ?_
                    rintro e w19 ⟨a18, k18, rfl, h18, hB19⟩
                    have HBox := Lib.hid (HBox.out.below hB19 (Nat.le_refl _))
                    have HB19 := Lib.hid (HB18.out.trans (hB19.mono HB18.out.size))
                    clear hB19 HB18 h18
                    have cb0 := hp_cell HBox.out (j := 0) (by rfl)
                    have cb1 := hp_cell HBox.out (j := 1) (by rfl)
                    go_wp2_with fail
                    clear cb0 cb1
                    refine (C19.out _ (HP.out.below HB19.out (Nat.le_refl _)) (HX.out.below HB19.out (Nat.le_refl _)) (HT.out.below HB19.out (Nat.le_refl _))).mono ?_
                    rintro e w20 ⟨a19, k19, rfl, h19, hB20⟩
                    have HBox := Lib.hid (HBox.out.below hB20 (Nat.le_refl _))
                    have R19 := Lib.hid ((edits_of_own h19).1)
                    have HB20 := Lib.hid (HB19.out.trans (hB20.mono HB19.out.size))
                    clear hB20 HB19 h19
                    have cb0 := hp_cell HBox.out (j := 0) (by rfl)
                    have cb1 := hp_cell HBox.out (j := 1) (by rfl)
                    go_wp2_with fail
                    clear cb0 cb1
                    refine (C20.out _ _ _ (HP.out.below HB20.out (Nat.le_refl _)) R19.out (HT.out.below HB20.out (Nat.le_refl _))).mono ?_
                    rintro e w21 ⟨rfl, hB21⟩
                    have HBox := Lib.hid (HBox.out.below hB21 (Nat.le_refl _))
                    clear R19
                    have HB21 := Lib.hid (HB20.out.trans (hB21.mono HB20.out.size))
                    clear hB21 HB20 
                    have cb0 := hp_cell HBox.out (j := 0) (by rfl)
                    have cb1 := hp_cell HBox.out (j := 1) (by rfl)
                    go_wp2_with fail
                    clear cb0 cb1
                    refine (C21.out _ (HP.out.below HB21.out (Nat.le_refl _)) (HX.out.below HB21.out (Nat.le_refl _)) (HT.out.below HB21.out (Nat.le_refl _))).mono ?_
                    rintro e w22 ⟨a21, k21, rfl, h21, hB22⟩
                    have HBox := Lib.hid (HBox.out.below hB22 (Nat.le_refl _))
                    have R21 := Lib.hid (h21)
                    have HB22 := Lib.hid (HB21.out.trans (hB22.mono HB21.out.size))
                    clear hB22 HB21 h21
                    simp only [Option.isSome, Option.getD]
                    replace R21 : Hid (EditsAt _ a21 z) := R21
                    have cb0 := hp_cell HBox.out (j := 0) (by rfl)
                    have cb1 := hp_cell HBox.out (j := 1) (by rfl)
                    go_wp2_with fail
                    clear cb0 cb1
                    refine (C22.out _ _ _ (HP.out.below HB22.out (Nat.le_refl _)) R21.out (HT.out.below HB22.out (Nat.le_refl _))).mono ?_
                    rintro e w23 ⟨rfl, hB23⟩
                    have HBox := Lib.hid (HBox.out.below hB23 (Nat.le_refl _))
                    clear R21
                    have HB23 := Lib.hid (HB22.out.trans (hB23.mono HB22.out.size))
                    clear hB23 HB22 
                    have cb0 := hp_cell HBox.out (j := 0) (by rfl)
                    have cb1 := hp_cell HBox.out (j := 1) (by rfl)
                    go_wp2_with fail
                    go_ret
                    exact ⟨rfl, HB23.out⟩
                · rw [show gdR ps xs ts = false by unfold gdR; rw [if_neg z3]] at C14
                  have y3 : (vpx ps xs (vts ts) != 0) = true := by simpa using z3
                  clear z3
                  generalize vpx ps xs (vts ts) = c14 at *
                  have cb0 := hp_cell HBox.out (j := 0) (by rfl)
                  have cb1 := hp_cell HBox.out (j := 1) (by rfl)
                  go_wp2_with fail
                  clear cb0 cb1
                  refine (C14.out _ (HP.out.below HB14.out (Nat.le_refl _)) (HX.out.below HB14.out (Nat.le_refl _)) (HT.out.below HB14.out (Nat.le_refl _))).mono ?_
                  rintro e w15 ⟨rfl, hB15⟩
                  have HBox := Lib.hid (HBox.out.below hB15 (Nat.le_refl _))
                  clear R1
                  clear R10
                  have HB15 := Lib.hid (HB14.out.trans (hB15.mono HB14.out.size))
                  clear hB15 HB14 
                  have cb0 := hp_cell HBox.out (j := 0) (by rfl)
                  have cb1 := hp_cell HBox.out (j := 1) (by rfl)
                  go_wp2_with fail
                  go_ret
                  exact ⟨rfl, HB15.out⟩
          · have y2 : (vpx ps ys 0 != 0) = true := by simpa using z2
            clear z2 C8 C9 C10 C11 C12 C13 S3 S4 C14 C15 C16 C17 C18 C19 C20 C21 C22
            generalize vpx ps ys 0 = c7 at *
            generalize doP ps ys = r7 at *
            have cb0 := hp_cell HBox.out (j := 0) (by rfl)
            have cb1 := hp_cell HBox.out (j := 1) (by rfl)
            go_wp2_with fail
            clear cb0 cb1
            refine (C7.out _ (HP.out.below HB10.out (Nat.le_refl _)) (HY.out.below HB10.out (Nat.le_refl _))).mono ?_
            rintro e w11 ⟨a7, k7, rfl, h7, hB11⟩
            have HBox := Lib.hid (HBox.out.below hB11 (Nat.le_refl _))
            clear R1
            have HB11 := Lib.hid (HB10.out.trans (hB11.mono HB10.out.size))
            clear hB11 HB10 h7
            have cb0 := hp_cell HBox.out (j := 0) (by rfl)
            have cb1 := hp_cell HBox.out (j := 1) (by rfl)
            go_wp2_with fail
            go_ret
            exact ⟨rfl, HB11.out⟩
        · obtain ⟨t1, t2⟩ := tps_bad z1
          rw [t1] at C1
          rw [t2] at C2
          have y1 : (vpx ps xs 0 != 0) = true := by simpa using z1
          clear z1 t1 t2 C3 C4 C5 C6 C7 C8 C9 C10 C11 C12 C13 S1 S2 S3 S4 C14 C15 C16 C17 C18 C19 C20 C21 C22
          generalize vpx ps xs 0 = c1 at *
          have cb0 := hp_cell HBox.out (j := 0) (by rfl)
          have cb1 := hp_cell HBox.out (j := 1) (by rfl)
          go_wp2_with fail
          clear cb0 cb1
          refine (C1.out _ (HP.out.below HB3.out (Nat.le_refl _)) (HX.out.below HB3.out (Nat.le_refl _))).mono ?_
          rintro e w4 ⟨a1, k1, rfl, h1, hB4⟩
          have HBox := Lib.hid (HBox.out.below hB4 (Nat.le_refl _))
          have HB4 := Lib.hid (HB3.out.trans (hB4.mono HB3.out.size))
          clear hB4 HB3 h1
          have cb0 := hp_cell HBox.out (j := 0) (by rfl)
          have cb1 := hp_cell HBox.out (j := 1) (by rfl)
          go_wp2_with fail
          clear cb0 cb1
          refine (C2.out _ (HP.out.below HB4.out (Nat.le_refl _)) (HX.out.below HB4.out (Nat.le_refl _))).mono ?_
          rintro e w5 ⟨rfl, hB5⟩
          have HBox := Lib.hid (HBox.out.below hB5 (Nat.le_refl _))
          have HB5 := Lib.hid (HB4.out.trans (hB5.mono HB4.out.size))
          clear hB5 HB4 
          have cb0 := hp_cell HBox.out (j := 0) (by rfl)
          have cb1 := hp_cell HBox.out (j := 1) (by rfl)
          go_wp2_with fail
          go_ret
          exact ⟨rfl, HB5.out⟩

end Go.Proofs.YtdcoebeffbkpnaaGreat
