/- SuiteDrops: the walk. -/
import Derived.Test.YtmigkbimdjiigaaSuR
import Derived.Test.YtmigkbimdjiigaaSvO
set_option linter.unusedVariables false
set_option linter.unusedSimpArgs false
namespace Go.Proofs.Ytmigkbimdjiigaa
open Go.RowKit Tinker

set_option maxRecDepth 100000 in
set_option maxHeartbeats 8000000 in
theorem suiteDrops_walk (a : Option Addr) (ca : Nat) (t : List (List Int)) (n : Int) (w : World) (ht : RowsK w a t) (hc : a = none → ca = 0) (hml : t.length ≤ maxLen) :
    Calls Try.prog 15 #[.slice a t.length ca, .int .i64 n] w fun e w' => e = .returned (.bool true) ∧ Below w.heap.size w w' := by
  have HK := Lib.hid (fun w => sane8_true w)
  have HL := Lib.hid (fun w ht => long8_any a ca t w ht hml)
  have HT := Lib.hid ht.at_
  have HTK := Lib.hid ht
  cases hl : lng8 t
  · obtain ⟨hl50, hm0⟩ := lng8_no hl
    have hm : ∀ x ∈ t, x.length ≤ 1000 := fun x hx => by have := hm0 x hx; omega
    rw [hl] at HL
    have C1 := Lib.hid (fun w h => sDrop_any a ca t n w h (by omega) hm)
    have C2 := Lib.hid (fun w h => rDrop8_any a ca t n w h (by omega) hm)
    clear ht hc hml hl hm0
    by_cases hE : drpE t n = 0
    · have hv : vsu t = 0 := by
        unfold drpE at hE
        split at hE
        · assumption
        · exact hE
      have hr : 0 ≤ n ∧ n < (goalsN t : Int) := by
        unfold drpE at hE
        rw [if_pos hv] at hE
        split at hE
        · assumption
        · cases hE
      obtain ⟨g, rfl⟩ : ∃ g : Nat, n = (g : Int) := ⟨n.toNat, by omega⟩
      rw [hE] at C1 C2
      simp only [if_pos] at C1 C2
      rw [show ((g : Int)).toNat = g from rfl] at C1 C2
      have hgg : g < goalsN t := by omega
      have hv2 := drp_good hv hgg
      have hcv := drp_cov hv hgg
      have hdl := drpL_len t g
      have hdm : ∀ z ∈ drpL t g, z.length ≤ 1000 := fun y hy => by
        obtain ⟨z, hz, rfl⟩ := List.mem_map.1 hy
        have := hm z hz
        have := drpR_len (g := g) (z := z) (by have := ((vsu_ok hv).2.2 z hz).1; omega)
        omega
      have S1 := Lib.hid (fun a' b' c' d' w h1 h2 => rSame8_self a' b' c' d' (drpL t g) w h1 h2 (by omega) hdm)
      have C3 := Lib.hid (fun w h => by
        have h9 := sCover_any a ca t w h (by omega) hm
        unfold coverL at h9
        rw [hv, if_pos rfl] at h9
        exact h9)
      have C4 := Lib.hid (fun a' c' w h => by
        have h9 := sCover_any a' c' (drpL t g) w h (by omega) hdm
        unfold coverL at h9
        rw [hv2, if_pos rfl] at h9
        exact h9)
      unfold szK at hcv
      have f2i : decide (((numsK (covM (tblM (drpL t g)))).length : Int) ≤ ((numsK (covM (tblM t))).length : Int)) = true := decide_eq_true (by omega)
      have f2n : decide ((numsK (covM (tblM (drpL t g)))).length ≤ (numsK (covM (tblM t))).length) = true := decide_eq_true hcv
      generalize numsK (covM (tblM (drpL t g))) = q2 at *
      generalize numsK (covM (tblM t)) = q1 at *
      generalize drpL t g = u at *
      clear hE hv hr hgg hv2 hcv hdl hdm hm
      go_enter Try.func15, Try.ntmps15
      go_wp2_with fail
      refine (HL.out _ HT.out).mono ?_
      rintro e w0 ⟨rfl, rfl⟩
      go_wp2_with fail
      refine (C1.out _ HTK.out).mono ?_
      rintro e w1 ⟨a1, c1, rfl, hA, hB⟩
      have HB := Lib.hid hB
      have A1 := Lib.hid (hA)
      clear hB hA
      go_wp2_with fail
      refine (C2.out _ (HTK.out.rn.below HB.out (Nat.le_refl _))).mono ?_
      rintro e w2 ⟨a2, c2, rfl, hA, hB⟩
      have A1 := Lib.hid (A1.out.below hB (Nat.le_refl _))
      have HB := Lib.hid (HB.out.trans (hB.mono HB.out.size))
      have A2 := Lib.hid (hA)
      clear hB hA
      go_wp2_with fail
      refine (S1.out _ _ _ _ _ A1.out A2.out).mono ?_
      rintro e w3 ⟨rfl, hB⟩
      have A1 := Lib.hid (A1.out.below hB (Nat.le_refl _))
      have A2 := Lib.hid (A2.out.below hB (Nat.le_refl _))
      have HB := Lib.hid (HB.out.trans (hB.mono HB.out.size))
      clear hB
      go_wp2_with fail
      refine (C3.out _ (HT.out.below HB.out (Nat.le_refl _))).mono ?_
      rintro e w4 ⟨a3, c3, rfl, ho, hB⟩
      have A1 := Lib.hid (A1.out.below hB (Nat.le_refl _))
      have A2 := Lib.hid (A2.out.below hB (Nat.le_refl _))
      have HB := Lib.hid (HB.out.trans (hB.mono HB.out.size))
      have I3 := Lib.hid ((ints_of_own ho).1)
      clear hB ho
      go_wp2_with fail
      refine (C4.out _ _ _ A1.out).mono ?_
      rintro e w5 ⟨a4, c4, rfl, -, hB⟩
      have A1 := Lib.hid (A1.out.below hB (Nat.le_refl _))
      have A2 := Lib.hid (A2.out.below hB (Nat.le_refl _))
      have I3 := Lib.hid (I3.out.below hB (Nat.le_refl _))
      have HB := Lib.hid (HB.out.trans (hB.mono HB.out.size))
      clear hB
      go_wp2_with fail
      refine (HK.out _ ).mono ?_
      rintro e w6 ⟨rfl, hB⟩
      have A1 := Lib.hid (A1.out.below hB (Nat.le_refl _))
      have A2 := Lib.hid (A2.out.below hB (Nat.le_refl _))
      have I3 := Lib.hid (I3.out.below hB (Nat.le_refl _))
      have HB := Lib.hid (HB.out.trans (hB.mono HB.out.size))
      clear hB
      go_wp2_with fail
      go_ret
      exact ⟨rfl, HB.out⟩
    · have S1 := Lib.hid (fun a' b' c' d' w h1 h2 => rSame8_self a' b' c' d' ([] : List (List Int)) w h1 h2 (by simp) (by simp))
      rw [if_neg hE] at C1 C2
      have e1 : (drpE t n != 0) = true := by simpa using hE
      have e2 : (drpE t n != drpE t n) = false := by simp
      generalize hYY : ([] : List (List Int)) = u at *
      generalize drpE t n = c at *
      clear hE hm hYY
      go_enter Try.func15, Try.ntmps15
      go_wp2_with fail
      refine (HL.out _ HT.out).mono ?_
      rintro e w0 ⟨rfl, rfl⟩
      go_wp2_with fail
      refine (C1.out _ HTK.out).mono ?_
      rintro e w1 ⟨a1, c1, rfl, hA, hB⟩
      have HB := Lib.hid hB
      have A1 := Lib.hid (hA)
      clear hB hA
      go_wp2_with fail
      refine (C2.out _ (HTK.out.rn.below HB.out (Nat.le_refl _))).mono ?_
      rintro e w2 ⟨a2, c2, rfl, hA, hB⟩
      have A1 := Lib.hid (A1.out.below hB (Nat.le_refl _))
      have HB := Lib.hid (HB.out.trans (hB.mono HB.out.size))
      have A2 := Lib.hid (hA)
      clear hB hA
      go_wp2_with fail
      refine (S1.out _ _ _ _ _ A1.out A2.out).mono ?_
      rintro e w3 ⟨rfl, hB⟩
      have A1 := Lib.hid (A1.out.below hB (Nat.le_refl _))
      have A2 := Lib.hid (A2.out.below hB (Nat.le_refl _))
      have HB := Lib.hid (HB.out.trans (hB.mono HB.out.size))
      clear hB
      go_wp2_with fail
      refine (HK.out _ ).mono ?_
      rintro e w4 ⟨rfl, hB⟩
      have A1 := Lib.hid (A1.out.below hB (Nat.le_refl _))
      have A2 := Lib.hid (A2.out.below hB (Nat.le_refl _))
      have HB := Lib.hid (HB.out.trans (hB.mono HB.out.size))
      clear hB
      go_wp2_with fail
      go_ret
      exact ⟨rfl, HB.out⟩
  · rw [hl] at HL
    clear ht hc hml hl
    go_enter Try.func15, Try.ntmps15
    go_wp2_with fail
    refine (HL.out _ HT.out).mono ?_
    rintro e w0 ⟨rfl, rfl⟩
    go_wp2_with fail
    refine (HK.out _ ).mono ?_
    rintro e w1 ⟨rfl, hB⟩
    have HB := Lib.hid hB
    clear hB
    go_wp2_with fail
    go_ret
    exact ⟨rfl, HB.out⟩

end Go.Proofs.Ytmigkbimdjiigaa
