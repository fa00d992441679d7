/- Suites of the code: Drop: contract. -/
import Derived.Test.YtmigkbimdjiigaaSuY
import Derived.Test.YtmigkbimdjiigaaSuV
import Derived.Test.YtmigkbimdjiigaaSuX
import Derived.Test.YtmigkbimdjiigaaSvN
import Derived.Test.YtmigkbimdjiigaaOpenC
set_option linter.unusedVariables false
set_option linter.unusedSimpArgs false
namespace Go.Proofs.Ytmigkbimdjiigaa
open Go.RowKit Tinker

theorem ints_head8 {w : World} {b o : Nat} {z : List Int} (h : IntsAt w (some ⟨b, o, none⟩) z) (g : Nat) : IntsAt w (some ⟨b, o, none⟩) (z.take g) := by
  rcases h with h | ⟨b', o', e, hl, hc⟩
  · exact .inl (by rw [h]; simp)
  · refine .inr ⟨b', o', e, hl, fun j n hj => ?_⟩
    rw [List.getElem?_take] at hj
    split at hj
    · exact hc j n hj
    · cases hj
theorem ints_tail8 {w : World} {b o q g : Nat} {z : List Int} (h : IntsAt w (some ⟨b, o, none⟩) z) (hq : g < z.length → q = o + g) : IntsAt w (some ⟨b, q, none⟩) (z.drop g) := by
  rcases Nat.lt_or_ge g z.length with hg | hg
  · rcases h with h | ⟨b', o', e, hl, hc⟩
    · rw [h] at hg; simp at hg
    · injection e with e
      injection e with e1 e2 e3
      subst e1 e2
      refine .inr ⟨b, o + g, by rw [hq hg], hl, fun j n hj => ?_⟩
      rw [List.getElem?_drop] at hj
      have := hc _ n hj
      rwa [← Nat.add_assoc] at this
  · exact .inl (List.drop_of_length_le hg)

set_option maxRecDepth 100000 in
set_option maxHeartbeats 4000000 in
theorem sDrop_any (a : Option Addr) (ca : Nat) (t : List (List Int)) (r : Int) (w : World) (ht : RowsK w a t) (hl : t.length ≤ 1000) (hm : ∀ z ∈ t, z.length ≤ 1000) :
    Calls Try.prog 53 #[.slice a t.length ca, .int .i64 r] w (GivesRowsA8 (if drpE t r = 0 then drpL t r.toNat else []) (drpE t r) w) := by
  have HV := Lib.hid (sValidate_any a ca t w ht.at_ hl hm)
  by_cases hv : vsu t = 0
  · obtain ⟨hl8, hg10, hrz⟩ := vsu_ok hv
    have HG := Lib.hid (sGoals_any a ca t w ht.at_)
    have HBW := Lib.hid (isBetween_any r 0 ((goalsN t : Int) - 1) w)
    rw [hv] at HV
    by_cases hr : 0 ≤ r ∧ r < (goalsN t : Int)
    · have hE : drpE t r = 0 := by unfold drpE; rw [if_pos hv, if_pos hr]
      rw [hE, if_pos rfl]
      have hb : btw r 0 ((goalsN t : Int) - 1) = true := btw_true.2 (by omega)
      rw [hb] at HBW
      obtain ⟨g, rfl⟩ : ∃ g : Nat, r = (g : Int) := ⟨r.toNat, by omega⟩
      rw [show ((g : Int)).toNat = g from rfl]
      have hgg : g < goalsN t := by omega
      have hmk := mkRows t.length (by omega)
      have HZ := Lib.hid (fun z hz => (hrz z hz).1)
      have HT := Lib.hid ht
      generalize goalsN t = G at *
      clear hv ht hm hb hr hE hrz
      go_enter Try.func53, Try.ntmps53
      go_wp2_with fail
      refine HV.out.mono ?_
      rintro e w' ⟨rfl, rfl⟩
      go_wp2_with fail
      refine HG.out.mono ?_
      rintro e w' ⟨rfl, rfl⟩
      go_wp2_with fail
      refine HBW.out.mono ?_
      rintro e w' ⟨rfl, rfl⟩
      clear HV HG HBW
      go_wp2_with fail
      go_loopw [26] (fun s26 wr => ∃ (k : Nat) (xs : List Value), k ≤ t.length ∧ s26 = .int .i64 k ∧ TabI w.heap.size (drpL (t.take k) g) t.length xs w wr) (fun s26 _ => t.length - (intOf s26).toNat)
      case atStart => exact ⟨0, _, Nat.zero_le _, rfl, tabI_new w t.length⟩
      case round =>
        obtain ⟨k, xs, hk, rfl, hI⟩ := hrel
        by_cases hlt : k < t.length
        · obtain ⟨b3, off3, z, a3, c3, rfl, hlb3, hzt, d3, hi3, hn3, hcz⟩ := (HT.out.below hI.below (Nat.le_refl _)).get hlt
          have hzG := HZ.out z (mem_of_get hzt)
          obtain ⟨bz, oz, x9, rfl, hlbz, -, -⟩ := hi3.at_ (show g < z.length by omega)
          have HS := Lib.hid (drpL_take (g := g) hzt)
          have HUS := Lib.hid (show z.take g ++ z.drop (g + 1) = drpR g z from rfl)
          have HE1 := Lib.hid ((ints_head8 hi3 g).below ((Below.refl wr.heap.size wr).drew) (Nat.le_refl _))
          obtain ⟨q, hif, hq⟩ : ∃ q : Nat, (if c3 = g + 1 then (some ⟨bz, oz, none⟩ : Option Addr) else some ⟨bz, oz + (g + 1), none⟩) = some ⟨bz, q, none⟩ ∧ (g + 1 < z.length → q = oz + (g + 1)) := by
            by_cases hvj : c3 = g + 1
            · exact ⟨oz, by rw [if_pos hvj], fun h => by omega⟩
            · exact ⟨oz + (g + 1), by rw [if_neg hvj], fun _ => rfl⟩
          have HE2 := Lib.hid ((ints_tail8 hi3 hq).below ((Below.refl wr.heap.size wr).drew) (Nat.le_refl _))
          have HU1 := Lib.hid (show (z.take g).length = g by rw [List.length_take]; omega)
          have HU2 := Lib.hid (show (z.drop (g + 1)).length = z.length - (g + 1) by rw [List.length_drop])
          have HTL := Lib.hid (show (drpL (t.take k) g).length = k by rw [drpL_len, List.length_take]; omega)
          have HLW := Lib.hid (show w.heap.size < wr.heap.size from hp_lt hI.bm)
          have HI := Lib.hid hI
          have hw : IntKind.i64.wrap ((g : Int) + 1) = (g : Int) + 1 := IntWalk.i64_in _ (by omega)
          generalize z.take g = u1 at *
          generalize z.drop (g + 1) = u2 at *
          generalize hzn : z.length = n at *
          have f1 : (g : Int) ≤ (c3 : Int) := by omega
          have f2 : (g : Int) + 1 ≤ (n : Int) := by omega
          have f3 : (n : Int) ≤ (c3 : Int) := by omega
          have f4 : (0 : Int) ≤ (g : Int) + 1 := by omega
          have f5 : n ≤ 10 := by omega
          clear hzt hi3 hn3 hq hI hzn hzG
          go_wp2_with fail
          refine wp_region_held_drew (S := (fun _ => True)) (by kernel_rfl) ?_ (fun hHeld => ?_)
          · exact trivial
          refine wpAnyH_take (i := 0) (oi := ?oiq1) (v := ?vq1) ?hiq1 (by kernel_rfl) (by kernel_rfl) (by kernel_rfl) ?hqq1 ?hyq1 hHeld ?restq1
          case hiq1 => exact rfl
          case hqq1 => exact fun _ _ _ h => h
          case hyq1 =>
            refine Or.inl ⟨by rfl, ?_⟩
            intro w hSw
            go_simp
            (try with_reducible rfl)
          try simp only [Act.put, List.getElem_toArray, List.getElem_cons_succ, List.getElem_cons_zero, List.setIfInBounds_toArray, List.set_cons_zero, List.set_cons_succ]
          refine wpAnyH_take (i := 1) (oi := ?oiq2) (v := ?vq2) ?hiq2 (by kernel_rfl) (by kernel_rfl) (by kernel_rfl) ?hqq2 ?hyq2 hHeld ?restq2
          case hiq2 => exact rfl
          case hqq2 => exact fun _ _ _ h => h
          case hyq2 =>
            refine Or.inl ⟨by rfl, ?_⟩
            intro w hSw
            go_simp
            (try with_reducible rfl)
          try simp only [Act.put, List.getElem_toArray, List.getElem_cons_succ, List.getElem_cons_zero, List.setIfInBounds_toArray, List.set_cons_zero, List.set_cons_succ]
          refine wpAnyH_take (i := 2) (oi := ?oiq3) (v := ?vq3) ?hiq3 (by kernel_rfl) (by kernel_rfl) (by kernel_rfl) ?hqq3 ?hyq3 hHeld ?restq3
          case hiq3 => exact rfl
          case hqq3 => exact fun _ _ _ h => h
          case hyq3 =>
            refine Or.inl ⟨by rfl, ?_⟩
            intro w hSw
            go_simp
            (try with_reducible rfl)
          try simp only [Act.put, List.getElem_toArray, List.getElem_cons_succ, List.getElem_cons_zero, List.setIfInBounds_toArray, List.set_cons_zero, List.set_cons_succ]
          refine wpAnyH_take (i := 3) (oi := ?oiq4) (v := ?vq4) ?hiq4 (by kernel_rfl) (by kernel_rfl) (by kernel_rfl) ?hqq4 ?hyq4 hHeld ?restq4
          case hiq4 => exact rfl
          case hqq4 => exact fun _ _ _ h => h
          case hyq4 =>
            refine Or.inl ⟨by rfl, ?_⟩
            intro w hSw
            go_simp
            (try with_reducible rfl)
          try simp only [Act.put, List.getElem_toArray, List.getElem_cons_succ, List.getElem_cons_zero, List.setIfInBounds_toArray, List.set_cons_zero, List.set_cons_succ]
          refine wpAnyH_take (i := 4) (oi := ?oiq5) (v := ?vq5) ?hiq5 (by kernel_rfl) (by kernel_rfl) (by kernel_rfl) ?hqq5 ?hyq5 hHeld ?restq5
          case hiq5 => exact rfl
          case hqq5 => exact fun _ _ _ h => h
          case hyq5 =>
            refine Or.inl ⟨by rfl, ?_⟩
            intro w hSw
            go_simp
            (try with_reducible rfl)
          try simp only [Act.put, List.getElem_toArray, List.getElem_cons_succ, List.getElem_cons_zero, List.setIfInBounds_toArray, List.set_cons_zero, List.set_cons_succ]
          refine wpAnyH_take (i := 5) (oi := ?oiq6) (v := ?vq6) ?hiq6 (by kernel_rfl) (by kernel_rfl) (by kernel_rfl) ?hqq6 ?hyq6 hHeld ?restq6
          case hiq6 => exact rfl
          case hqq6 => exact fun _ _ _ h => h
          case hyq6 =>
            refine Or.inl ⟨by rfl, ?_⟩
            intro w hSw
            go_simp
            (try with_reducible rfl)
          try simp only [Act.put, List.getElem_toArray, List.getElem_cons_succ, List.getElem_cons_zero, List.setIfInBounds_toArray, List.set_cons_zero, List.set_cons_succ]
          refine wpAnyH_take (i := 6) (oi := ?oiq7) (v := ?vq7) ?hiq7 (by kernel_rfl) (by kernel_rfl) (by kernel_rfl) ?hqq7 ?hyq7 hHeld ?restq7
          case hiq7 => exact rfl
          case hqq7 => exact fun _ _ _ h => h
          case hyq7 =>
            refine Or.inl ⟨by rfl, ?_⟩
            intro w hSw
            go_simp
            (try with_reducible rfl)
          try simp only [Act.put, List.getElem_toArray, List.getElem_cons_succ, List.getElem_cons_zero, List.setIfInBounds_toArray, List.set_cons_zero, List.set_cons_succ]
          refine wpAnyH_take (i := 7) (oi := ?oiq8) (v := (.int .i64 ((g : Int) + 1))) ?hiq8 (by kernel_rfl) (by kernel_rfl) (by kernel_rfl) ?hqq8 ?hyq8 hHeld ?restq8
          case hiq8 => exact rfl
          case hqq8 => exact fun _ _ _ h => h
          case hyq8 =>
            refine Or.inl ⟨by rfl, ?_⟩
            intro w hSw
            go_simp
            (try with_reducible rfl)
          try simp only [Act.put, List.getElem_toArray, List.getElem_cons_succ, List.getElem_cons_zero, List.setIfInBounds_toArray, List.set_cons_zero, List.set_cons_succ]
          refine wpAnyH_take (i := 8) (oi := ?oiq9) (v := ?vq9) ?hiq9 (by kernel_rfl) (by kernel_rfl) (by kernel_rfl) ?hqq9 ?hyq9 hHeld ?restq9
          case hiq9 => exact rfl
          case hqq9 => exact fun _ _ _ h => h
          case hyq9 =>
            refine Or.inl ⟨by rfl, ?_⟩
            intro w hSw
            go_simp
            (try with_reducible rfl)
          try simp only [Act.put, List.getElem_toArray, List.getElem_cons_succ, List.getElem_cons_zero, List.setIfInBounds_toArray, List.set_cons_zero, List.set_cons_succ]
          refine wpAnyH_ready (rs := [9]) (by kernel_rfl) (by simp) ?_
          refine AllReadyH.cons (o := ?oz9) ?hz9 ?kz9 AllReadyH.nil
          case hz9 => exact rfl
          case kz9 =>
            intro Kz hKz
            go_simp
            have HBA := Lib.hid ((Below.refl wr.drew.heap.size wr.drew).alloc (Nat.le_refl _) (.cells #[.slice (some ⟨bz, oz, none⟩) g c3, .slice (some ⟨bz, q, none⟩) (n - (g + 1)) (c3 - (g + 1))] 23))
            refine hKz.out _ _ trivial (fun hHeld => ?_)
            clear hKz Kz
            try simp only [Act.put, List.getElem_toArray, List.getElem_cons_succ, List.getElem_cons_zero, List.setIfInBounds_toArray, List.set_cons_zero, List.set_cons_succ]
            refine wpAnyH_ready (rs := [10]) (by kernel_rfl) (by simp) ?_
            refine AllReadyH.cons (o := ?oz10) ?hz10 ?kz10 AllReadyH.nil
            case hz10 => exact rfl
            case kz10 =>
              intro Kz hKz
              go_simp
              refine (concat8_any wr.drew.heap.size (some ⟨bz, oz, none⟩) (some ⟨bz, q, none⟩) c3 (c3 - (g + 1)) u1 u2 23 _ (by rw [HU1.out, HU2.out]; exact hp_new rfl) (HE1.out.below HBA.out (Nat.le_refl _)) (by intro h; cases h) (HE2.out.below HBA.out (Nat.le_refl _)) (by intro h; cases h) (by rw [HU1.out, HU2.out]; omega)).mono ?_
              rintro e w1 ⟨a1, c1, rfl, ho, hB1⟩
              have HLN := Lib.hid (show (u1 ++ u2).length = (drpR g z).length by rw [HUS.out])
              have hB2 := HBA.out.trans (hB1.mono HBA.out.size)
              have hI2 := HI.out.low ((Below.refl _ _).drew.trans (hB2.mono (Nat.le_refl _)))
              obtain ⟨v, m1⟩ := hI2.cell hlt
              have m2 := hp_free hI2.bm k
              have hOL := ((ownL_off (M := w.heap.size) (ownL_of ho) (by have := HLW.out; simp; omega)).wide (base' := w.heap.size) (by have := HLW.out; simp; omega))
              rw [HUS.out] at hOL
              have hP := hI2.put (c := c1) (by rw [HTL.out]; exact hlt) hOL
              rw [HTL.out, ← HS.out] at hP
              have HP := Lib.hid hP
              clear hP hOL hI2 ho hB1 hB2 HI
              rw [HLN.out]
              refine hKz.out _ _ trivial (fun hHeld => ?_)
              clear hKz Kz
              try simp only [Act.put, List.getElem_toArray, List.getElem_cons_succ, List.getElem_cons_zero, List.setIfInBounds_toArray, List.set_cons_zero, List.set_cons_succ]
              refine wpAnyH_take (i := 11) (oi := ?oiq10) (v := ?vq10) ?hiq10 (by kernel_rfl) (by kernel_rfl) (by kernel_rfl) ?hqq10 ?hyq10 hHeld ?restq10
              case hiq10 => exact rfl
              case hqq10 => exact fun _ _ _ h => h
              case hyq10 =>
                refine Or.inl ⟨by rfl, ?_⟩
                intro w hSw
                go_simp
                (try with_reducible rfl)
              try simp only [Act.put, List.getElem_toArray, List.getElem_cons_succ, List.getElem_cons_zero, List.setIfInBounds_toArray, List.set_cons_zero, List.set_cons_succ]
              refine wpAnyH_ready (rs := [12]) (by kernel_rfl) (by simp) ?_
              refine AllReadyH.cons (o := ?oz12) ?hz12 ?kz12 AllReadyH.nil
              case hz12 => exact rfl
              case kz12 =>
                intro Kz hKz
                go_simp
                refine hKz.out _ _ trivial (fun hHeld => ?_)
                clear hKz Kz
                try simp only [Act.put, List.getElem_toArray, List.getElem_cons_succ, List.getElem_cons_zero, List.setIfInBounds_toArray, List.set_cons_zero, List.set_cons_succ]
                refine wpAnyH_done (by kernel_rfl) ?_ _
                clear hHeld
                go_wp2_with fail
                go_roundw
                case rel => exact ⟨k + 1, _, by omega, by go_num, HP.out⟩
                case measure => simp [intOf]; omega
        · obtain rfl : k = t.length := by omega
          rw [List.take_length] at hI
          have HI := Lib.hid hI
          clear hI
          go_wp2_with fail
          go_ret2
          exact ⟨some ⟨w.heap.size, 0, none⟩, t.length, by rw [drpL_len]; rfl, HI.out.at_, HI.out.below⟩
    · have hE : drpE t r = 4 := by unfold drpE; rw [if_pos hv, if_neg hr]
      rw [hE, if_neg (by decide)]
      have hb : btw r 0 ((goalsN t : Int) - 1) = false := by
        rw [Bool.eq_false_iff]
        intro h
        have := btw_true.1 h
        omega
      rw [hb] at HBW
      clear hv ht hm hb hr hE hrz
      go_enter Try.func53, Try.ntmps53
      go_wp2_with fail
      refine HV.out.mono ?_
      rintro e w' ⟨rfl, rfl⟩
      go_wp2_with fail
      refine HG.out.mono ?_
      rintro e w' ⟨rfl, rfl⟩
      go_wp2_with fail
      refine HBW.out.mono ?_
      rintro e w' ⟨rfl, rfl⟩
      go_wp2_with fail
      go_ret2
      exact ⟨none, 0, rfl, .inl rfl, Below.refl _ _⟩
  · have hE : drpE t r = vsu t := by unfold drpE; rw [if_neg hv]
    rw [hE, if_neg hv]
    have hne : (vsu t != 0) = true := by simpa using hv
    clear hv ht hm hE
    go_enter Try.func53, Try.ntmps53
    go_wp2_with fail
    refine HV.out.mono ?_
    rintro e w' ⟨rfl, rfl⟩
    go_wp2_with fail
    go_ret2
    exact ⟨none, 0, rfl, .inl rfl, Below.refl _ _⟩

end Go.Proofs.Ytmigkbimdjiigaa
