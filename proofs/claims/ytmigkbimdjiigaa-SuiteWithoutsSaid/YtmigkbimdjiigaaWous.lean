/- SuiteWithouts: the walk. -/
import Derived.Test.YtmigkbimdjiigaaSuR
import Derived.Test.YtmigkbimdjiigaaSvM
set_option linter.unusedVariables false
set_option linter.unusedSimpArgs false
namespace Tinker
theorem wou_mem {t : List (List Int)} {r : Int} {z : List Int} (h : z ∈ wouL t r) : z ∈ t := by
  unfold wouL at h
  rcases List.mem_append.1 h with h | h
  · exact List.take_subset _ _ h
  · exact List.drop_subset _ _ h
theorem wou_le (t : List (List Int)) (r : Int) : (wouL t r).length ≤ t.length := by
  unfold wouL
  rw [List.length_append, List.length_take, List.length_drop]
  omega
theorem tblM_sameW {t u : List (List Int)} {i j : Nat} (h : u[j]? = t[i]?) : (tblM u).getD j 0 = (tblM t).getD i 0 := by
  unfold tblM
  rw [List.getD_eq_getElem?_getD, List.getD_eq_getElem?_getD, List.getElem?_map, List.getElem?_map, h]
theorem vsu_rowsW {t u : List (List Int)} (hv : vsu t = 0) (hl : u.length ≤ 8) (h : ∀ z ∈ u, z ∈ t) : vsu u = 0 := by
  obtain ⟨h1, h2, h3⟩ := vsu_ok hv
  have hg : ∀ z ∈ u, z.length = goalsN u := fun z hz => by
    cases u with
    | nil => cases hz
    | cons x r =>
      show z.length = x.length
      rw [(h3 z (h z hz)).1, (h3 x (h x (by simp))).1]
  refine vsu_good ?_ (List.all_eq_true.2 fun z hz => ?_)
  · rintro (e | e)
    · omega
    · cases u with
      | nil => exact absurd e (by simp [goalsN])
      | cons x r =>
        have := (h3 x (h x (by simp))).1
        have e2 : goalsN (x :: r) = x.length := rfl
        omega
  · unfold rowB
    rw [Bool.and_eq_true, beq_iff_eq]
    exact ⟨hg z hz, (h3 z (h z hz)).2⟩
/-- A goal that a part of the rows meets is open to the suite. -/
theorem open_part {t u : List (List Int)} (h : ∀ z ∈ u, z ∈ t) : szK (openM (tblM u)) ≤ szK (openM (tblM t)) := by
  refine szK_mono fun i hi => ?_
  obtain ⟨j, j1, j2⟩ := openM_bit.1 hi
  rw [tblM_len] at j1
  obtain ⟨z, hz⟩ := get_of_lt j1
  obtain ⟨k, hk⟩ := List.getElem?_of_mem (h z (List.mem_of_getElem? hz))
  refine openM_bit.2 ⟨k, by rw [tblM_len]; exact (List.getElem?_eq_some_iff.1 hk).1, ?_⟩
  rw [← tblM_sameW (hz.trans hk.symm)]
  exact j2
theorem wouE_ok {t : List (List Int)} {r : Int} (h : wouE t r = 0) : vsu t = 0 := by
  unfold wouE at h
  split at h
  · assumption
  · exact h
end Tinker
namespace Go.Proofs.Ytmigkbimdjiigaa
open Go.RowKit Tinker

set_option maxRecDepth 100000 in
set_option maxHeartbeats 8000000 in
theorem suiteWithouts_walk (a : Option Addr) (ca : Nat) (t : List (List Int)) (n : Int) (w : World) (ht : RowsN w a t) (hc : a = none → ca = 0) (hml : t.length ≤ maxLen) :
    Calls Try.prog 14 #[.slice a t.length ca, .int .i64 n] w fun e w' => e = .returned (.bool true) ∧ Below w.heap.size w w' := by
  have HK := Lib.hid (fun w => sane8_true w)
  have HL := Lib.hid (fun w ht => long8_any a ca t w ht hml)
  have HT := Lib.hid ht.at_
  have HTN := Lib.hid ht
  cases hl : lng8 t
  · obtain ⟨hl50, hm0⟩ := lng8_no hl
    have hm : ∀ x ∈ t, x.length ≤ 1000 := fun x hx => by have := hm0 x hx; omega
    rw [hl] at HL
    have C0 := Lib.hid (fun w h => rCopy8_any a ca t w h (by omega) hm)
    have C1 := Lib.hid (fun b' c' w h => sWou_any b' c' t n w h (by omega) hm)
    have C2 := Lib.hid (fun w h => rWou8_any a ca t n w h (by omega) hm)
    have S0 := Lib.hid (fun a' b' c' d' w h1 h2 => rSame8_self a' b' c' d' t w h1 h2 (by omega) hm)
    clear ht hc hml hl hm0
    by_cases hE : wouE t n = 0
    · have hv := wouE_ok hE
      have hwl := wou_le t n
      have hvw := vsu_rowsW hv (u := wouL t n) (by have := (vsu_ok hv).1; omega) (fun z hz => wou_mem hz)
      have hwm : ∀ z ∈ wouL t n, z.length ≤ 1000 := fun z hz => hm z (wou_mem hz)
      have hop := open_part (t := t) (u := wouL t n) (fun z hz => wou_mem hz)
      rw [hE] at C1 C2
      simp only [if_pos] at C1 C2
      have S1 := Lib.hid (fun a' b' c' d' w h1 h2 => rSame8_self a' b' c' d' (wouL t n) w h1 h2 (by omega) hwm)
      have C3 := Lib.hid (fun w h => by
        have h9 := sOpen_any a ca t w h (by omega) hm
        rw [hv, if_pos rfl] at h9
        exact h9)
      have C4 := Lib.hid (fun a' c' w h => by
        have h9 := sOpen_any a' c' (wouL t n) w h (by omega) hwm
        rw [hvw, if_pos rfl] at h9
        exact h9)
      unfold szK at hop
      have hg1 : decide (((numsK (openM (tblM t))).length : Int) < ((numsK (openM (tblM (wouL t n)))).length : Int)) = false := decide_eq_false (by omega)
      have hg2 : decide ((numsK (openM (tblM t))).length < (numsK (openM (tblM (wouL t n)))).length) = false := decide_eq_false (by omega)
      have HY := Lib.hid hwm
      have hYl : (wouL t n).length ≤ 50 := by omega
      generalize numsK (openM (tblM t)) = q1 at *
      generalize numsK (openM (tblM (wouL t n))) = q2 at *
      generalize wouL t n = Y at *
      clear hE hv hvw hwm hop hm hwl
      go_enter Try.func14, Try.ntmps14
      go_wp2_with fail
      refine (HL.out _ HT.out).mono ?_
      rintro e w0 ⟨rfl, rfl⟩
      go_wp2_with fail
      refine (C0.out _ HTN.out).mono ?_
      rintro e w1 ⟨b0, c0, xs0, rfl, hI0⟩
      have R0 := Lib.hid hI0.at_.1
      have HB := Lib.hid hI0.below
      clear hI0
      obtain ⟨W1, hW1⟩ : ∃ W, W = w1 := ⟨_, rfl⟩
      subst hW1
      go_wp2_with fail
      refine (C1.out _ _ _ R0.out).mono ?_
      rintro e w2 ⟨a1, c1, rfl, hO1, hB⟩
      have O1 := Lib.hid hO1
      have HBW := Lib.hid hB
      clear hO1 hB
      go_wp2_with fail
      refine (C2.out _ (HTN.out.below (HB.out.trans (HBW.out.mono HB.out.size)) (Nat.le_refl _))).mono ?_
      rintro e w3 ⟨a2, c2, rfl, hA2, hB⟩
      have A2 := Lib.hid hA2
      have O1 := Lib.hid (O1.out.below hB)
      have HBW := Lib.hid (HBW.out.trans (hB.mono HBW.out.size))
      clear hA2 hB
      go_wp2_with fail
      refine (S1.out _ _ _ _ _ O1.out.at_ A2.out).mono ?_
      rintro e w4 ⟨rfl, hB⟩
      have O1 := Lib.hid (O1.out.below hB)
      have HBW := Lib.hid (HBW.out.trans (hB.mono HBW.out.size))
      clear hB
      go_wp2_with fail
      refine (C3.out _ (HT.out.below (HB.out.trans (HBW.out.mono HB.out.size)) (Nat.le_refl _))).mono ?_
      rintro e w5 ⟨a3, c3, rfl, -, hB⟩
      have O1 := Lib.hid (O1.out.below hB)
      have HBW := Lib.hid (HBW.out.trans (hB.mono HBW.out.size))
      clear hB
      go_wp2_with fail
      refine (C4.out _ _ _ O1.out.at_).mono ?_
      rintro e w6 ⟨a4, c4, rfl, -, hB⟩
      have O1 := Lib.hid (O1.out.below hB)
      have HBW := Lib.hid (HBW.out.trans (hB.mono HBW.out.size))
      clear hB
      obtain ⟨M, xs, tt, hMe, hBb, hP⟩ := O1.out.pokZ HBW.out
      have HMe := Lib.hid hMe
      have HBb := Lib.hid hBb
      have HP0 := Lib.hid hP
      clear hMe hBb hP O1 HBW
      go_wp2_with fail
      go_loopw [14] (fun s14 wx => ∃ k : Nat, k ≤ Y.length ∧ s14 = .int .i64 k ∧ Below W1.heap.size W1 wx ∧ (Y = [] ∨ PokI8 W1.heap.size M xs tt (Y.map List.length) W1 wx)) (fun s14 _ => Y.length - (intOf s14).toNat)
      case atStart => exact ⟨0, Nat.zero_le _, rfl, HBb.out, HP0.out⟩
      case round =>
        obtain ⟨k, hk, rfl, hBk, hPk⟩ := hrel
        have HBk := Lib.hid hBk
        have HPk := Lib.hid hPk
        clear hBk hPk HBb HP0
        by_cases hlk : k < Y.length
        · have hne : Y ≠ [] := by rintro rfl; simp at hlk
          obtain rfl := HMe.out hne
          have hP := HPk.out.resolve_left hne
          obtain ⟨zs, hzs⟩ := get_of_lt hlk
          obtain ⟨a', c', hx, hrow⟩ := hP.st k zs.length (by rw [List.getElem?_map, hzs]; rfl)
          have hz8 := HY.out zs (mem_of_get hzs)
          have x0 := hp_cell hP.bm (j := k) (by simpa using hx)
          have HP := Lib.hid hP
          have HROW := Lib.hid hrow
          have HXK := Lib.hid hx
          have HZS := Lib.hid hzs
          clear hP hrow hx hzs hne HMe HPk
          have HN := Lib.hid (show (Y.map List.length)[k]? = some zs.length by rw [List.getElem?_map, HZS.out]; rfl)
          generalize zs.length = nn at x0 HROW HXK hz8 HN
          go_wp2_with fail
          go_loopw [15] (fun s15 wy => ∃ m : Nat, m ≤ nn ∧ s15 = .int .i64 m ∧ PokI8 W1.heap.size M xs tt (Y.map List.length) W1 wy) (fun s15 _ => nn - (intOf s15).toNat)
          case atStart => exact ⟨0, Nat.zero_le _, rfl, HP.out⟩
          case round =>
            clear HP x0
            obtain ⟨m, hmn, rfl, hQ⟩ := hrel
            have x0 := hp_cell hQ.bm (j := k) (by simpa using HXK.out)
            have HQ := Lib.hid hQ
            by_cases hlm : m < nn
            · obtain ⟨a2', c2', hx2, hrow2⟩ := hQ.st k nn HN.out
              rw [HXK.out] at hx2
              injection hx2 with hx2
              injection hx2 with e1 e2 e3
              subst e1 e3
              obtain ⟨b, cs, t', rfl, hbb, hbM, hcs, hns⟩ := hrow2.resolve_left (by omega)
              obtain ⟨v0, hv0⟩ := cs_get8 (show m < cs.size by omega)
              have m1 := hp_cell hcs hv0
              have m2 := hp_free hcs m
              have HPP := Lib.hid (HQ.out.put hbb hbM m (.int .i64 (-1)))
              clear hQ hv0 hcs hns hbM
              go_wp2_with fail
              go_roundw
              case rel => exact ⟨m + 1, by omega, by go_num, HPP.out⟩
              case measure => simp [intOf]; omega
            · obtain rfl : m = nn := by omega
              clear hQ
              go_wp2_with fail
              go_roundw
              case rel => exact ⟨k + 1, by omega, by go_num, HQ.out.below, .inr HQ.out⟩
              case measure => simp [intOf]; omega
        · obtain rfl : k = Y.length := by omega
          have R0 := Lib.hid (R0.out.below HBk.out (Nat.le_refl _))
          have HBw := Lib.hid (HB.out.trans (HBk.out.mono HB.out.size))
          clear HPk HMe
          go_wp2_with fail
          refine (S0.out _ _ _ _ _ R0.out (HT.out.below HBw.out (Nat.le_refl _))).mono ?_
          rintro e w8 ⟨rfl, hB8⟩
          have HB8 := Lib.hid (HBw.out.trans (hB8.mono HBw.out.size))
          clear hB8
          go_wp2_with fail
          refine (HK.out _).mono ?_
          rintro e w9 ⟨rfl, hB9⟩
          have HB9 := Lib.hid (HB8.out.trans (hB9.mono HB8.out.size))
          clear hB9
          go_wp2_with fail
          go_ret
          exact ⟨rfl, HB9.out⟩
    · have S1 := Lib.hid (fun a' b' c' d' w h1 h2 => rSame8_self a' b' c' d' ([] : List (List Int)) w h1 h2 (by simp) (by simp))
      rw [if_neg hE] at C1 C2
      have e1 : (wouE t n == 0) = false := by simpa using hE
      have e2 : (wouE t n == wouE t n) = true := by simp
      have e3 : (wouE t n != wouE t n) = false := by simp
      have HY := Lib.hid (show ∀ z ∈ ([] : List (List Int)), z.length ≤ 1000 by simp)
      have hYl : ([] : List (List Int)).length ≤ 50 := by simp
      generalize hYY : ([] : List (List Int)) = Y at *
      generalize wouE t n = c at *
      clear hE hm hYY
      go_enter Try.func14, Try.ntmps14
      go_wp2_with fail
      refine (HL.out _ HT.out).mono ?_
      rintro e w0 ⟨rfl, rfl⟩
      go_wp2_with fail
      refine (C0.out _ HTN.out).mono ?_
      rintro e w1 ⟨b0, c0, xs0, rfl, hI0⟩
      have R0 := Lib.hid hI0.at_.1
      have HB := Lib.hid hI0.below
      clear hI0
      obtain ⟨W1, hW1⟩ : ∃ W, W = w1 := ⟨_, rfl⟩
      subst hW1
      go_wp2_with fail
      refine (C1.out _ _ _ R0.out).mono ?_
      rintro e w2 ⟨a1, c1, rfl, hO1, hB⟩
      have O1 := Lib.hid hO1
      have HBW := Lib.hid hB
      clear hO1 hB
      go_wp2_with fail
      refine (C2.out _ (HTN.out.below (HB.out.trans (HBW.out.mono HB.out.size)) (Nat.le_refl _))).mono ?_
      rintro e w3 ⟨a2, c2, rfl, hA2, hB⟩
      have A2 := Lib.hid hA2
      have O1 := Lib.hid (O1.out.below hB)
      have HBW := Lib.hid (HBW.out.trans (hB.mono HBW.out.size))
      clear hA2 hB
      go_wp2_with fail
      refine (S1.out _ _ _ _ _ O1.out.at_ A2.out).mono ?_
      rintro e w4 ⟨rfl, hB⟩
      have O1 := Lib.hid (O1.out.below hB)
      have HBW := Lib.hid (HBW.out.trans (hB.mono HBW.out.size))
      clear hB
      obtain ⟨M, xs, tt, hMe, hBb, hP⟩ := O1.out.pokZ HBW.out
      have HMe := Lib.hid hMe
      have HBb := Lib.hid hBb
      have HP0 := Lib.hid hP
      clear hMe hBb hP O1 HBW
      go_wp2_with fail
      go_loopw [14] (fun s14 wx => ∃ k : Nat, k ≤ Y.length ∧ s14 = .int .i64 k ∧ Below W1.heap.size W1 wx ∧ (Y = [] ∨ PokI8 W1.heap.size M xs tt (Y.map List.length) W1 wx)) (fun s14 _ => Y.length - (intOf s14).toNat)
      case atStart => exact ⟨0, Nat.zero_le _, rfl, HBb.out, HP0.out⟩
      case round =>
        obtain ⟨k, hk, rfl, hBk, hPk⟩ := hrel
        have HBk := Lib.hid hBk
        have HPk := Lib.hid hPk
        clear hBk hPk HBb HP0
        by_cases hlk : k < Y.length
        · have hne : Y ≠ [] := by rintro rfl; simp at hlk
          obtain rfl := HMe.out hne
          have hP := HPk.out.resolve_left hne
          obtain ⟨zs, hzs⟩ := get_of_lt hlk
          obtain ⟨a', c', hx, hrow⟩ := hP.st k zs.length (by rw [List.getElem?_map, hzs]; rfl)
          have hz8 := HY.out zs (mem_of_get hzs)
          have x0 := hp_cell hP.bm (j := k) (by simpa using hx)
          have HP := Lib.hid hP
          have HROW := Lib.hid hrow
          have HXK := Lib.hid hx
          have HZS := Lib.hid hzs
          clear hP hrow hx hzs hne HMe HPk
          have HN := Lib.hid (show (Y.map List.length)[k]? = some zs.length by rw [List.getElem?_map, HZS.out]; rfl)
          generalize zs.length = nn at x0 HROW HXK hz8 HN
          go_wp2_with fail
          go_loopw [15] (fun s15 wy => ∃ m : Nat, m ≤ nn ∧ s15 = .int .i64 m ∧ PokI8 W1.heap.size M xs tt (Y.map List.length) W1 wy) (fun s15 _ => nn - (intOf s15).toNat)
          case atStart => exact ⟨0, Nat.zero_le _, rfl, HP.out⟩
          case round =>
            clear HP x0
            obtain ⟨m, hmn, rfl, hQ⟩ := hrel
            have x0 := hp_cell hQ.bm (j := k) (by simpa using HXK.out)
            have HQ := Lib.hid hQ
            by_cases hlm : m < nn
            · obtain ⟨a2', c2', hx2, hrow2⟩ := hQ.st k nn HN.out
              rw [HXK.out] at hx2
              injection hx2 with hx2
              injection hx2 with e1 e2 e3
              subst e1 e3
              obtain ⟨b, cs, t', rfl, hbb, hbM, hcs, hns⟩ := hrow2.resolve_left (by omega)
              obtain ⟨v0, hv0⟩ := cs_get8 (show m < cs.size by omega)
              have m1 := hp_cell hcs hv0
              have m2 := hp_free hcs m
              have HPP := Lib.hid (HQ.out.put hbb hbM m (.int .i64 (-1)))
              clear hQ hv0 hcs hns hbM
              go_wp2_with fail
              go_roundw
              case rel => exact ⟨m + 1, by omega, by go_num, HPP.out⟩
              case measure => simp [intOf]; omega
            · obtain rfl : m = nn := by omega
              clear hQ
              go_wp2_with fail
              go_roundw
              case rel => exact ⟨k + 1, by omega, by go_num, HQ.out.below, .inr HQ.out⟩
              case measure => simp [intOf]; omega
        · obtain rfl : k = Y.length := by omega
          have R0 := Lib.hid (R0.out.below HBk.out (Nat.le_refl _))
          have HBw := Lib.hid (HB.out.trans (HBk.out.mono HB.out.size))
          clear HPk HMe
          go_wp2_with fail
          refine (S0.out _ _ _ _ _ R0.out (HT.out.below HBw.out (Nat.le_refl _))).mono ?_
          rintro e w8 ⟨rfl, hB8⟩
          have HB8 := Lib.hid (HBw.out.trans (hB8.mono HBw.out.size))
          clear hB8
          go_wp2_with fail
          refine (HK.out _).mono ?_
          rintro e w9 ⟨rfl, hB9⟩
          have HB9 := Lib.hid (HB8.out.trans (hB9.mono HB8.out.size))
          clear hB9
          go_wp2_with fail
          go_ret
          exact ⟨rfl, HB9.out⟩
  · rw [hl] at HL
    clear ht hc hml hl
    go_enter Try.func14, Try.ntmps14
    go_wp2_with fail
    refine (HL.out _ HT.out).mono ?_
    rintro e w0 ⟨rfl, rfl⟩
    go_wp2_with fail
    refine (HK.out _ ).mono ?_
    rintro e w1 ⟨rfl, hB⟩
    have HB := Lib.hid hB
    clear hB
    go_wp2_with fail
    go_ret
    exact ⟨rfl, HB.out⟩

end Go.Proofs.Ytmigkbimdjiigaa
