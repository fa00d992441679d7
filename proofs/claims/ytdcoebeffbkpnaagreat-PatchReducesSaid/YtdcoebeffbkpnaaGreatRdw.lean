/- PatchReduces: the walk. -/
import Derived.Test.YtdcoebeffbkpnaaGreatSml
import Derived.Test.YtdcoebeffbkpnaaGreatFxR
import Derived.Test.YtdcoebeffbkpnaaGreatFxW
import Derived.Test.YtdcoebeffbkpnaaGreatRdc
import Derived.Test.YtdcoebeffbkpnaaGreatMny
import Derived.Test.YtdcoebeffbkpnaaGreatDoe
set_option linter.unusedVariables false
set_option linter.unusedSimpArgs false
namespace Go.Proofs.YtdcoebeffbkpnaaGreat
open Go.RowKit Tinker

theorem rdR_len (ps : List L) (xs : List E) (ts : List T) : (rdR ps xs ts).length ≤ xs.length := by
  unfold rdR
  split
  · exact (rd_sub _ _).length_le
  · simp
theorem reduce_facts {ps : List L} {xs : List E} {ts : List T} (h : rdC ps xs ts = 0) : ∃ z : List E, gdR ps (rdR ps xs ts) ts = true ∧ vpx ps (rdR ps xs ts) (vts ts) = 0 ∧ smR ps xs ts = some z ∧ vpx ps xs (vts ts) = 0 ∧ z.length ≤ (rdR ps xs ts).length := by
  obtain ⟨h1, h2⟩ := rdC_ok h
  have e : rdR ps xs ts = rdL (gdB ps ts) xs := by unfold rdR; rw [if_pos h]
  have hv := vpx_sub4 h1 (rd_sub (gdB ps ts) xs)
  have hg := rd_good h2
  have e2 : smR ps xs ts = smO (gdB ps ts) xs := by unfold smR; rw [if_pos h1]
  rw [e, e2]
  cases hs : smO (gdB ps ts) xs with
  | none =>
    have := smO_none hs _ (List.Sublist.refl xs)
    rw [h2] at this
    cases this
  | some z => exact ⟨z, by unfold gdR; rw [if_pos hv, hg], hv, rfl, h1, smO_le hs (rd_sub _ _) hg⟩

set_option maxRecDepth 100000 in
set_option maxHeartbeats 4000000 in
theorem patchReduces_walk (a : Option Addr) (ca : Nat) (ps : List L) (g : Option Addr) (cg : Nat) (xs : List E) (h : Option Addr) (ch : Nat) (ts : List T) (w : World) (hp : LinesAt w a ps) (hc : a = none → ca = 0) (hx : EditsAt w g xs) (hc1 : g = none → cg = 0) (hts : TestsAt w h ts) (hc2 : h = none → ch = 0) (ht : ts.length ≤ maxLen) :
    Calls Tryz.prog 3 #[.slice a ps.length ca, .slice g xs.length cg, .slice h ts.length ch] w fun e w' => e = .returned (.bool true) ∧ Below w.heap.size w w' := by
  clear hc2
  have HK := Lib.hid (fun w => sane_true w)
  have HL := Lib.hid (fun w => long4_any a g ps.length xs.length ca cg w)
  have HM := Lib.hid (fun w h1 => many4_any h ch ts w h1 ht)
  have HP := Lib.hid hp
  have HX := Lib.hid hx
  have HT := Lib.hid hts
  clear hp hx hts
  by_cases g1 : 100 < ps.length ∨ 100 < xs.length
  · rw [show (decide (100 < ps.length) || decide (100 < xs.length)) = true by simpa using g1] at HL
    clear g1 HM HP HX HT
    go_enter Tryz.func3, Tryz.ntmps3
    go_wp2_with fail
    refine (HL.out _).mono ?_
    rintro e we0 ⟨rfl, rfl⟩
    go_wp2_with fail
    refine (HK.out _).mono ?_
    rintro e w1 ⟨rfl, hB1⟩
    have HB1 := Lib.hid hB1
    clear hB1 
    go_wp2_with fail
    go_ret
    exact ⟨rfl, HB1.out⟩
  rw [show (decide (100 < ps.length) || decide (100 < xs.length)) = false by simp; omega] at HL
  cases g2 : manyC ts
  case true =>
    rw [g2] at HM
    clear g1 g2 HP HX
    go_enter Tryz.func3, Tryz.ntmps3
    go_wp2_with fail
    refine (HL.out _).mono ?_
    rintro e we0 ⟨rfl, rfl⟩
    go_wp2_with fail
    refine (HM.out _ HT.out).mono ?_
    rintro e w1 ⟨rfl, hB1⟩
    have HB1 := Lib.hid hB1
    clear hB1 
    go_wp2_with fail
    refine (HK.out _).mono ?_
    rintro e w2 ⟨rfl, hB2⟩
    have HB2 := Lib.hid (HB1.out.trans (hB2.mono HB1.out.size))
    clear hB2 
    go_wp2_with fail
    go_ret
    exact ⟨rfl, HB2.out⟩
  case false =>
    obtain ⟨t50, tml⟩ := manyC_no g2
    rw [g2] at HM
    have hml : ∀ t ∈ ts, t.inn.length ≤ 1000 := fun t h => Nat.le_trans (tml t h) (by decide)
    clear g2 tml
    have hl1 := rdR_len ps xs ts
    have C1 := Lib.hid (fun w h1 h2 h3 => pReduce_any a g h ca cg ch ps xs ts w h1 h2 h3 (by omega) (by omega) hml (by omega))
    have C2 := Lib.hid (fun w h1 h2 h3 => rReduce_any a g h ca cg ch ps xs ts w h1 h2 h3 hc hc1 (by omega))
    have C3 := Lib.hid (fun b c w h1 h2 h3 => pIsGood_any a b h ca c ch ps (rdR ps xs ts) ts w h1 h2 h3 (by omega) (by omega) hml (by omega))
    have C4 := Lib.hid (fun w h1 h2 h3 => pSmallest_any a g h ca cg ch ps xs ts w h1 h2 h3 (by omega) (by omega) hml (by omega))
    have S1 := Lib.hid (fun a' b' c' d' w h1 h2 => sameE_self (rdR ps xs ts).length a' b' c' d' (rdR ps xs ts) w rfl h1 h2 (by omega))
    clear hc hc1
    by_cases z1 : rdC ps xs ts = 0
    · obtain ⟨z, t1, t2, t3, t4, t5⟩ := reduce_facts z1
      rw [z1] at C1 C2
      rw [t1, t2] at C3
      rw [t3, t4] at C4
      clear t1 t2 t3 t4 z1
      generalize rdR ps xs ts = D at *
      go_enter Tryz.func3, Tryz.ntmps3
      go_wp2_with fail
      refine (HL.out _).mono ?_
      rintro e we0 ⟨rfl, rfl⟩
      go_wp2_with fail
      refine (HM.out _ HT.out).mono ?_
      rintro e w1 ⟨rfl, hB1⟩
      have HB1 := Lib.hid hB1
      clear hB1 
      go_wp2_with fail
      refine (C1.out _ (HP.out.below HB1.out (Nat.le_refl _)) (HX.out.below HB1.out (Nat.le_refl _)) (HT.out.below HB1.out (Nat.le_refl _))).mono ?_
      rintro e w2 ⟨a1, k1, rfl, h1, hB2⟩
      have R1 := Lib.hid ((edits_of_own h1).1)
      have HB2 := Lib.hid (HB1.out.trans (hB2.mono HB1.out.size))
      clear hB2 h1
      go_wp2_with fail
      refine (C2.out _ (HP.out.below HB2.out (Nat.le_refl _)) (HX.out.below HB2.out (Nat.le_refl _)) (HT.out.below HB2.out (Nat.le_refl _))).mono ?_
      rintro e w3 ⟨a2, k2, rfl, h2, hB3⟩
      have R1 := Lib.hid (R1.out.below hB3 (Nat.le_refl _))
      have R2 := Lib.hid ((edits_of_own h2).1)
      have HB3 := Lib.hid (HB2.out.trans (hB3.mono HB2.out.size))
      clear hB3 h2
      go_wp2_with fail
      refine (S1.out _ _ _ _ _ R1.out R2.out).mono ?_
      rintro e w4 ⟨rfl, hB4⟩
      have R1 := Lib.hid (R1.out.below hB4 (Nat.le_refl _))
      clear R2
      have HB4 := Lib.hid (HB3.out.trans (hB4.mono HB3.out.size))
      clear hB4 
      go_wp2_with fail
      refine (C3.out _ _ _ (HP.out.below HB4.out (Nat.le_refl _)) R1.out (HT.out.below HB4.out (Nat.le_refl _))).mono ?_
      rintro e w5 ⟨rfl, hB5⟩
      clear R1
      have HB5 := Lib.hid (HB4.out.trans (hB5.mono HB4.out.size))
      clear hB5 
      go_wp2_with fail
      refine (C4.out _ (HP.out.below HB5.out (Nat.le_refl _)) (HX.out.below HB5.out (Nat.le_refl _)) (HT.out.below HB5.out (Nat.le_refl _))).mono ?_
      rintro e w6 ⟨a4, k4, rfl, h4, hB6⟩
      have HB6 := Lib.hid (HB5.out.trans (hB6.mono HB5.out.size))
      clear hB6 h4
      simp only [Option.isSome, Option.getD]
      go_wp2_with fail
      refine (HK.out _).mono ?_
      rintro e w7 ⟨rfl, hB7⟩
      have HB7 := Lib.hid (HB6.out.trans (hB7.mono HB6.out.size))
      clear hB7 
      go_wp2_with fail
      go_ret
      exact ⟨rfl, HB7.out⟩
    · have y1 : (rdC ps xs ts != 0) = true := by simpa using z1
      clear z1 C3 C4
      generalize rdR ps xs ts = D at *
      generalize rdC ps xs ts = c1 at *
      go_enter Tryz.func3, Tryz.ntmps3
      go_wp2_with fail
      refine (HL.out _).mono ?_
      rintro e we0 ⟨rfl, rfl⟩
      go_wp2_with fail
      refine (HM.out _ HT.out).mono ?_
      rintro e w1 ⟨rfl, hB1⟩
      have HB1 := Lib.hid hB1
      clear hB1 
      go_wp2_with fail
      refine (C1.out _ (HP.out.below HB1.out (Nat.le_refl _)) (HX.out.below HB1.out (Nat.le_refl _)) (HT.out.below HB1.out (Nat.le_refl _))).mono ?_
      rintro e w2 ⟨a1, k1, rfl, h1, hB2⟩
      have R1 := Lib.hid ((edits_of_own h1).1)
      have HB2 := Lib.hid (HB1.out.trans (hB2.mono HB1.out.size))
      clear hB2 h1
      go_wp2_with fail
      refine (C2.out _ (HP.out.below HB2.out (Nat.le_refl _)) (HX.out.below HB2.out (Nat.le_refl _)) (HT.out.below HB2.out (Nat.le_refl _))).mono ?_
      rintro e w3 ⟨a2, k2, rfl, h2, hB3⟩
      have R1 := Lib.hid (R1.out.below hB3 (Nat.le_refl _))
      have R2 := Lib.hid ((edits_of_own h2).1)
      have HB3 := Lib.hid (HB2.out.trans (hB3.mono HB2.out.size))
      clear hB3 h2
      go_wp2_with fail
      refine (S1.out _ _ _ _ _ R1.out R2.out).mono ?_
      rintro e w4 ⟨rfl, hB4⟩
      clear R1
      clear R2
      have HB4 := Lib.hid (HB3.out.trans (hB4.mono HB3.out.size))
      clear hB4 
      go_wp2_with fail
      refine (HK.out _).mono ?_
      rintro e w5 ⟨rfl, hB5⟩
      have HB5 := Lib.hid (HB4.out.trans (hB5.mono HB4.out.size))
      clear hB5 
      go_wp2_with fail
      go_ret
      exact ⟨rfl, HB5.out⟩

end Go.Proofs.YtdcoebeffbkpnaaGreat
