/- BlameAll: the walk. -/
import Derived.Test.YtigaklppdlknkaaGreatBlI
import Derived.Test.YtigaklppdlknkaaGreatAlm
import Derived.Test.YtigaklppdlknkaaGreatRbm
import Derived.Test.YtigaklppdlknkaaGreatSls
set_option linter.unusedVariables false
set_option linter.unusedSimpArgs false
namespace Go.Proofs.YtigaklppdlknkaaGreat
open Go.RowKit Tinker

theorem fT_nil {ps : List L} {ts : List T} (h : (pL false ps ts).length = 0) : fT ps ts = [] := by
  unfold fT
  rw [List.eq_nil_of_length_eq_zero h]
  rfl

set_option maxRecDepth 100000 in
set_option maxHeartbeats 4000000 in
theorem blameAll_walk (a : Option Addr) (ca : Nat) (ps : List L) (g : Option Addr) (cg : Nat) (ts : List T) (size : Int) (w : World) (hp : LinesAt w a ps) (hc0 : a = none → ca = 0) (hts : TestsAt w g ts) (hc1 : g = none → cg = 0) :
    Calls Tryz.prog 3 #[.slice a ps.length ca, .slice g ts.length cg, .int .i64 size] w fun e w' => e = .returned (.bool true) ∧ Below w.heap.size w w' := by
  clear hc0 hc1
  have HK := Lib.hid (fun w => known3_true w)
  have HL := Lib.hid (fun w => long_any a ps.length ca w)
  have HM := Lib.hid (many_any g cg ts w hts)
  by_cases g1 : 100 < ps.length
  · rw [show decide ((100 : Int) < (ps.length : Int)) = true by simp; omega] at HL
    clear hp hts g1
    go_enter Tryz.func3, Tryz.ntmps3
    go_wp2_with fail
    refine (HL.out _).mono ?_
    rintro e w1 ⟨rfl, rfl⟩
    go_wp2_with fail
    refine (HK.out _).mono ?_
    rintro e w2 ⟨rfl, hB⟩
    go_wp2_with fail
    go_ret
    exact ⟨rfl, hB⟩
  rw [show decide ((100 : Int) < (ps.length : Int)) = false by simp; omega] at HL
  cases hmb : manyB ts
  rotate_left
  · rw [hmb] at HM
    clear hp hts g1 hmb
    go_enter Tryz.func3, Tryz.ntmps3
    go_wp2_with fail
    refine (HL.out _).mono ?_
    rintro e w1 ⟨rfl, rfl⟩
    go_wp2_with fail
    refine HM.out.mono ?_
    rintro e w1 ⟨rfl, hB1⟩
    have HB1 := Lib.hid hB1
    clear hB1
    go_wp2_with fail
    refine (HK.out _).mono ?_
    rintro e w2 ⟨rfl, hB⟩
    go_wp2_with fail
    go_ret
    exact ⟨rfl, HB1.out.trans (hB.mono HB1.out.size)⟩
  rw [hmb] at HM
  obtain ⟨t50, t100⟩ := many_no hmb
  have hml : ∀ t ∈ ts, t.inn.length ≤ 1000 := fun t ht => by have := t100 t ht; omega
  have C1 := Lib.hid (fun w hp hts => Blamed_any a g ca cg ps ts size w hp hts (by omega) hml)
  have C2 := Lib.hid (fun w hp hts => rBlamed_any a g ca cg ps ts size w hp hts (by omega) (by omega))
  have hX := bm_len ps ts size
  have HX2 := Lib.hid (fun z h => bm_small (ps := ps) (ts := ts) (size := size) (z := z) h)
  have S1 := Lib.hid (fun a' b' c' d' w h1 h2 => sameLists_self (bmL ps ts size).length a' b' c' d' (bmL ps ts size) w rfl h1 h2 (by omega) (fun z hz => by have := HX2.out z hz; omega))
  have CI := Lib.hid (fun c cc zs w hp hts hl (hz : zs.length ≤ 8) => IsToBlame_any a g c ca cg cc ps ts zs w hp hts hl (by omega) hml (by omega) (by omega))
  have HE := Lib.hid (fun h z hz => bm_each (ps := ps) (ts := ts) (size := size) h (z := z) hz)
  have HC := Lib.hid (fun h (hz : (pL false ps ts).length = 0) => bm_count (ps := ps) (ts := ts) (size := size) h (fT_nil hz))
  have CF := Lib.hid (fun w hp hts => failing_any a g ca cg ps ts w hp hts (by omega) hml)
  have CS := Lib.hid (fun w hp => some_any a ca ps size w hp (by omega))
  have hpl := pL_len false ps ts
  have HV := Lib.hid (show bmC ps ts size = 0 → vpt ps ts = 0 from fun h => by
    unfold bmC at h
    split at h
    · assumption
    · rename_i h0; exact absurd h h0)
  have HN := Lib.hid (show bmC ps ts size ≠ 0 → bmL ps ts size = [] from fun h => by unfold bmL; rw [if_neg h])
  have HP := Lib.hid hp
  have HT := Lib.hid hts
  generalize smN ps size = sn at HC CS
  generalize pL false ps ts = F at HC CF hpl
  generalize bmL ps ts size = X at C1 C2 hX HX2 S1 HE HC HN
  generalize bmC ps ts size = bc at C1 C2 HE HC HV HN
  generalize vpt ps ts = v at CF HV
  clear hp hts g1 hmb hml t100
  go_enter Tryz.func3, Tryz.ntmps3
  go_wp2_with fail
  refine (HL.out _).mono ?_
  rintro e w1 ⟨rfl, rfl⟩
  go_wp2_with fail
  refine HM.out.mono ?_
  rintro e w0 ⟨rfl, hB0⟩
  have HB0 := Lib.hid hB0
  clear hB0
  go_wp2_with fail
  refine (C1.out _ (HP.out.below HB0.out (Nat.le_refl _)) (HT.out.below HB0.out (Nat.le_refl _))).mono ?_
  rintro e w1 ⟨a1, c1, rfl, h1, hB1⟩
  have R1 := Lib.hid h1.at_
  have HB1 := Lib.hid (HB0.out.trans (hB1.mono HB0.out.size))
  clear h1 hB1
  go_wp2_with fail
  refine (C2.out _ (HP.out.below HB1.out (Nat.le_refl _)) (HT.out.below HB1.out (Nat.le_refl _))).mono ?_
  rintro e w2 ⟨a2, c2, rfl, h2, hB2⟩
  have R1 := Lib.hid (R1.out.below hB2 (Nat.le_refl _))
  have R2 := Lib.hid h2.at_
  have HB2 := Lib.hid (HB1.out.trans (hB2.mono HB1.out.size))
  clear h2 hB2
  go_wp2_with fail
  refine (S1.out _ _ _ _ _ R1.out R2.out).mono ?_
  rintro e w5 ⟨rfl, hB5⟩
  have R1 := Lib.hid (R1.out.below hB5 (Nat.le_refl _))
  have HB5 := Lib.hid (HB2.out.trans (hB5.mono HB2.out.size))
  clear hB5 R2 HB2 HB1 HB0 C1 C2 S1 HM
  go_wp2_with fail
  go_loopw [11] (fun s11 wr => ∃ k : Nat, k ≤ X.length ∧ s11 = .int .i64 k ∧ Below w.heap.size w wr ∧ RowsAt wr a1 X) (fun s11 _ => X.length - (intOf s11).toNat)
  case atStart => exact ⟨0, Nat.zero_le _, rfl, HB5.out, R1.out⟩
  case round =>
    obtain ⟨k, hk, rfl, hB, hR⟩ := hrel
    have HB := Lib.hid hB
    have HR := Lib.hid hR
    clear hB hR HB5 R1
    by_cases hlt : k < X.length
    · obtain ⟨b, off, zs, a', c', rfl, hlb, hzs, x0, hI⟩ := HR.out.at_ hlt
      have hmem := mem_of_get hzs
      have hbc : bc = 0 := by
        by_cases h : bc = 0
        · exact h
        · rw [HN.out h] at hmem; simp at hmem
      obtain ⟨i1, i2, i3⟩ := HE.out hbc zs hmem
      have hz8 := HX2.out zs hmem
      have HI := Lib.hid hI
      have HZ := Lib.hid i3
      have CI2 := Lib.hid (fun w hp hts hl => CI.out (c := a') (cc := c') zs w hp hts hl hz8)
      rw [i1, i2] at CI2
      clear hzs hI i1 i2 i3 hmem hbc
      generalize zs.length = n at x0 CI2 HZ hz8
      have hne : ((n : Int) != size) = false := by simpa using HZ.out
      go_wp2_with fail
      refine (CI2.out _ (HP.out.below HB.out (Nat.le_refl _)) (HT.out.below HB.out (Nat.le_refl _)) HI.out).mono ?_
      rintro e w6 ⟨rfl, hB6⟩
      have HR := Lib.hid (HR.out.below hB6 (Nat.le_refl _))
      have y0 := (hB6.cell (p := ⟨b, off + k, none⟩) hlb).trans x0
      have HB6 := Lib.hid (HB.out.trans (hB6.mono HB.out.size))
      clear hB6 x0
      go_wp2_with fail
      go_roundw
      case rel => exact ⟨k + 1, by omega, by go_num, HB6.out, HR.out⟩
      case measure => simp [intOf]; omega
    · obtain rfl : k = X.length := by omega
      go_wp2_with fail
      refine (CF.out _ (HP.out.below HB.out (Nat.le_refl _)) (HT.out.below HB.out (Nat.le_refl _))).mono ?_
      rintro e w6 ⟨a6, c6, rfl, h6, hB6⟩
      have HB6 := Lib.hid (HB.out.trans (hB6.mono HB.out.size))
      clear hB6 h6
      by_cases hbc : bc = 0
      · have hv := HV.out hbc
        have HCC := Lib.hid (HC.out hbc)
        subst hbc hv
        by_cases hF : F.length = 0
        · have HX := Lib.hid (HCC.out hF)
          clear HCC HC
          generalize F.length = f at hF
          subst hF
          go_wp2_with fail
          refine (CS.out _ (HP.out.below HB6.out (Nat.le_refl _))).mono ?_
          rintro e w7 ⟨rfl, hB7⟩
          have HB7 := Lib.hid (HB6.out.trans (hB7.mono HB6.out.size))
          clear hB7
          rw [← HX.out]
          go_wp2_with fail
          refine (HK.out _).mono ?_
          rintro e w8 ⟨rfl, hB⟩
          go_wp2_with fail
          go_ret
          exact ⟨rfl, HB7.out.trans (hB.mono HB7.out.size)⟩
        · have hd : decide ((0 : Int) < (F.length : Int)) = true := by simp; omega
          clear HCC HC
          generalize F.length = f at hF hd hpl
          go_wp2_with fail
          refine (HK.out _).mono ?_
          rintro e w8 ⟨rfl, hB⟩
          go_wp2_with fail
          go_ret
          exact ⟨rfl, HB6.out.trans (hB.mono HB6.out.size)⟩
      · have hz1 : (bc != 0) = true := by simpa using hbc
        have hz2 : (bc == 0) = false := by simpa using hbc
        clear hbc
        go_wp2_with fail
        refine (HK.out _).mono ?_
        rintro e w8 ⟨rfl, hB⟩
        go_wp2_with fail
        go_ret
        exact ⟨rfl, HB6.out.trans (hB.mono HB6.out.size)⟩

end Go.Proofs.YtigaklppdlknkaaGreat
