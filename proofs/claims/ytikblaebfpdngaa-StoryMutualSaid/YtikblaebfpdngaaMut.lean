/- StoryMutual: the walk. -/
import Derived.Test.YtikblaebfpdngaaLng7
import Derived.Test.YtikblaebfpdngaaHs7
import Derived.Test.YtikblaebfpdngaaHtL
import Derived.Test.YtikblaebfpdngaaOpenH
set_option linter.unusedVariables false
set_option linter.unusedSimpArgs false
namespace Go.Proofs.Ytikblaebfpdngaa
open Go.RowKit Tinker

theorem below_drewN7 (w : World) (n : Nat) : Below w.heap.size w (w.drewN n) := ⟨rfl, rfl, rfl, Nat.le_refl _, fun _ _ => rfl⟩

set_option maxRecDepth 100000 in
set_option maxHeartbeats 8000000 in
theorem storyMutual_walk (a : Option Addr) (ca : Nat) (ps : List L) (g : Option Addr) (cg : Nat) (h : List (List E)) (n k : Int) (w : World) (hp : LinesAt w a ps) (hc : a = none → ca = 0) (hh : RowsEAt w g h) (hc1 : g = none → cg = 0) (hcg : h.length ≤ cg) (hml : h.length ≤ maxLen) :
    Calls Try.prog 5 #[.slice a ps.length ca, .slice g h.length cg, .agg #[.int .i64 n, .int .i64 k]] w fun e w' => e = .returned (.bool true) ∧ Below w.heap.size w w' := by
  have HK := Lib.hid (fun w => sane7_true w)
  have HL := Lib.hid (fun w hh => long7_any a g ps.length ca cg h w hh hml)
  have HP := Lib.hid hp
  have HH := Lib.hid hh
  cases hl : lng7 ps.length h
  · obtain ⟨hpl0, hhl0, hm0⟩ := lng7_no hl
    have hpl : ps.length ≤ 1000 := by omega
    have hhl : h.length ≤ 1000 := by omega
    have hm : ∀ x ∈ h, x.length ≤ 1000 := fun x hx => by have := hm0 x hx; omega
    rw [hl] at HL
    have hb0 := (Below.refl w.heap.size w).alloc (Nat.le_refl _) (.cells #[.int .i64 n, .int .i64 k] 40)
    have hx0 := heap_new w (.cells #[.int .i64 n, .int .i64 k] 40)
    obtain ⟨w0, hw0⟩ : ∃ w0, w0 = w.alloc (.cells #[.int .i64 n, .int .i64 k] 40) := ⟨_, rfl⟩
    rw [← hw0] at hb0 hx0
    have x0 := hp_cell hx0 (j := 0) rfl
    have x1 := hp_cell hx0 (j := 1) rfl
    have HW0 := Lib.hid hw0
    have HB0 := Lib.hid hb0
    clear hw0 hb0 hx0 hc
    have C1 := Lib.hid (fun w h1 h2 => stNeeds_any a g ca cg ps h n w h1 h2 hpl hhl hm)
    have C2 := Lib.hid (fun w h1 h2 => stNeeded_any a g ca cg ps h k w h1 h2 hpl hhl hm)
    clear hp hh hc1 hml hl hm0
    by_cases z1 : vnC ps h n = 0
    · by_cases z2 : vnC ps h k = 0
      · obtain ⟨hv, n', rfl, hn'⟩ := vnC_0 z1
        obtain ⟨_, k', rfl, hk'⟩ := vnC_0 z2
        have h8 := (vst_ok hv).2.1
        have HV := Lib.hid hv
        rw [if_pos z1, z1] at C1
        rw [if_pos z2, z2] at C2
        rw [Int.toNat_natCast] at C1 C2
        have C3 := Lib.hid (fun (m : Nat) (hm' : m < h.length) w h1 h2 => by
          have h9 := stNeeds_any a g ca cg ps h (m : Int) w h1 h2 hpl hhl hm
          rw [vnC_of hv hm', if_pos rfl, Int.toNat_natCast] at h9
          exact h9)
        have HE1 := Lib.hid (has_ned (m := k') hn')
        have HE2 := Lib.hid (has_ndd (m := k') hn')
        have HA := Lib.hid (fun z (hz : z ∈ ints (nedN h n')) => show ∃ m : Nat, z = (m : Int) ∧ m < h.length ∧ m < n' ∧ ndB h n' m = true from by
          obtain ⟨m, hm, rfl⟩ := List.mem_map.1 hz
          have h9 := (ned_mem hn').1 hm
          have h10 := ndB_lt n' h9
          exact ⟨m, rfl, by omega, h10, h9⟩)
        have HT := Lib.hid (fun m (hm9 : m < h.length) (e : ndB h n' m = true) z (hz : z ∈ ints (nedN h m)) => show hasB (ints (nedN h n')) z = true from by
          obtain ⟨j, hj, rfl⟩ := List.mem_map.1 hz
          show hasB _ ((j : Nat) : Int) = true
          rw [has_ned hn']
          exact ndB_trans ((ned_mem hm9).1 hj) n' e)
        have l1 := ned_len h8 n'
        have l2 := ndd_len h8 k'
        have HL3 := Lib.hid (ned_len h8)
        generalize nedN h n' = As at *
        generalize ints (nddN h k') = Bs at *
        have HM := Lib.hid hm
        clear z1 z2 hv hm
        go_enter Try.func5, Try.ntmps5
        go_upto_region 1 with fail
        rw [← HW0.out]
        have HB := Lib.hid HB0.out
        go_wp2_with fail
        refine (HL.out _ (HH.out.below HB.out (Nat.le_refl _))).mono ?_
        rintro e we ⟨rfl, rfl⟩
        go_upto_region 3 with fail
        go_quiet (fail)
        generalize hwd : World.drewN _ _ = wd
        have HB := Lib.hid (show Below w.heap.size w wd from by rw [← hwd]; exact HB.out.trans ((below_drewN7 w0 _).mono HB.out.size))
        clear x0 x1 hwd
        go_wp2_with fail
        refine (C1.out _ (HP.out.below HB.out (Nat.le_refl _)) (HH.out.below HB.out (Nat.le_refl _))).mono ?_
        rintro e w1 ⟨a1, c1, rfl, ho, hB⟩
        have HB := Lib.hid (HB.out.trans (hB.mono HB.out.size))
        have H1 := Lib.hid ((ints_of_own ho).1)
        clear hB ho
        go_wp2_with fail
        refine (C2.out _ (HP.out.below HB.out (Nat.le_refl _)) (HH.out.below HB.out (Nat.le_refl _))).mono ?_
        rintro e w2 ⟨a2, c2, rfl, ho, hB⟩
        have H1 := Lib.hid (H1.out.below hB (Nat.le_refl _))
        have HB := Lib.hid (HB.out.trans (hB.mono HB.out.size))
        have H2 := Lib.hid ((ints_of_own ho).1)
        clear hB ho
        have R1 := Lib.hid (fun z w h => rHas4_any a1 c1 (ints As) z w h (by omega))
        have R2 := Lib.hid (fun z w h => rHas4_any a2 c2 Bs z w h (by omega))
        obtain ⟨xs, hxs⟩ : ∃ xs, xs = ints As := ⟨_, rfl⟩
        rw [← hxs] at HE1 HA HT l1 H1 R1 ⊢
        clear hxs
        go_wp2_with fail
        go_loopw [13] (fun s13 wr => ∃ i : Nat, i ≤ xs.length ∧ s13 = .int .i64 i ∧ Below w2.heap.size w2 wr) (fun s13 _ => xs.length - (intOf s13).toNat)
        case atStart => exact ⟨0, Nat.zero_le _, rfl, Below.refl _ _⟩
        case round =>
          obtain ⟨i, hi, rfl, hB2⟩ := hrel
          have HR := Lib.hid hB2
          have HB := Lib.hid (HB.out.trans (hB2.mono HB.out.size))
          have H1 := Lib.hid (H1.out.below hB2 (Nat.le_refl _))
          have H2 := Lib.hid (H2.out.below hB2 (Nat.le_refl _))
          clear hB2
          by_cases hlt : i < xs.length
          · obtain ⟨b, off, z, rfl, hlb, hz, c0⟩ := H1.out.at_ hlt
            obtain ⟨m, rfl, hml, hmn, hmd⟩ := HA.out z (mem_of_get hz)
            have HTT := Lib.hid (HT.out m hml hmd)
            have hmk : decide (n' ≤ m) = false := decide_eq_false (by omega)
            have l3 := HL3.out m
            clear hz hmd
            go_wp2_with fail
            refine (C3.out m hml _ (HP.out.below HB.out (Nat.le_refl _)) (HH.out.below HB.out (Nat.le_refl _))).mono ?_
            rintro e w4 ⟨a4, c4, rfl, ho, hB⟩
            have H4 := Lib.hid (ints_of_own ho).1
            have H1 := Lib.hid (H1.out.below hB (Nat.le_refl _))
            have c1' := (hB.cell (p := ⟨b, _, none⟩) hlb).trans c0
            have HR4 := Lib.hid (HR.out.trans (hB.mono HR.out.size))
            clear ho hB c0
            generalize ints (nedN h m) = ys at *
            go_wp2_with fail
            go_loopw [16] (fun s16 wx => ∃ j : Nat, j ≤ ys.length ∧ s16 = .int .i64 j ∧ wx = w4) (fun s16 _ => ys.length - (intOf s16).toNat)
            case atStart => exact ⟨0, Nat.zero_le _, rfl, rfl⟩
            case round =>
              obtain ⟨j, hj, rfl, rfl⟩ := hrel
              by_cases hlj : j < ys.length
              · obtain ⟨b2, o2, y, rfl, hlb2, hy, d0⟩ := H4.out.at_ hlj
                have HRR := Lib.hid (R1.out y _ H1.out)
                rw [HTT.out y (mem_of_get hy)] at HRR
                clear hy
                go_wp2_with fail
                refine HRR.out.mono ?_
                rintro e w5 ⟨rfl, rfl⟩
                go_wp2_with fail
                go_roundw
                case rel => exact ⟨j + 1, by omega, by go_num, by first | trivial | rfl⟩
                case measure => simp [intOf]; omega
              · go_wp2_with fail
                go_roundw
                case rel => exact ⟨i + 1, by omega, by go_num, HR4.out⟩
                case measure => simp [intOf]; omega
          · have Q1 := Lib.hid (R1.out (k' : Int) _ H1.out)
            have Q2 := Lib.hid (R2.out (n' : Int) _ H2.out)
            rw [HE1.out] at Q1
            rw [HE2.out] at Q2
            generalize ndB h n' k' = I at Q1 Q2
            have hII : (I == I) = true := by simp
            clear HA HT
            go_wp2_with fail
            refine Q1.out.mono ?_
            rintro e w5 ⟨rfl, rfl⟩
            go_wp2_with fail
            refine Q2.out.mono ?_
            rintro e w6 ⟨rfl, rfl⟩
            go_wp2_with fail
            refine (HK.out _).mono ?_
            rintro e w7 ⟨rfl, hB⟩
            go_wp2_with fail
            go_ret
            exact ⟨rfl, HB.out.trans (hB.mono HB.out.size)⟩
      · rw [if_pos z1, z1] at C1
        rw [if_neg z2] at C2
        have hz2 : (vnC ps h k != 0) = true := by simpa using z2
        generalize vnC ps h k = v2 at C2 hz2
        generalize ints (nedN h n.toNat) = As at C1
        clear z1 z2 hm
        go_enter Try.func5, Try.ntmps5
        go_upto_region 1 with fail
        rw [← HW0.out]
        have HB := Lib.hid HB0.out
        go_wp2_with fail
        refine (HL.out _ (HH.out.below HB.out (Nat.le_refl _))).mono ?_
        rintro e we ⟨rfl, rfl⟩
        go_upto_region 3 with fail
        go_quiet (fail)
        generalize hwd : World.drewN _ _ = wd
        have HB := Lib.hid (show Below w.heap.size w wd from by rw [← hwd]; exact HB.out.trans ((below_drewN7 w0 _).mono HB.out.size))
        clear x0 x1 hwd
        go_wp2_with fail
        refine (C1.out _ (HP.out.below HB.out (Nat.le_refl _)) (HH.out.below HB.out (Nat.le_refl _))).mono ?_
        rintro e w1 ⟨a1, c1, rfl, ho, hB⟩
        have HB := Lib.hid (HB.out.trans (hB.mono HB.out.size))
        clear hB ho
        go_wp2_with fail
        refine (C2.out _ (HP.out.below HB.out (Nat.le_refl _)) (HH.out.below HB.out (Nat.le_refl _))).mono ?_
        rintro e w2 ⟨a2, c2, rfl, ho, hB⟩
        have HB := Lib.hid (HB.out.trans (hB.mono HB.out.size))
        clear hB ho
        go_wp2_with fail
        refine (HK.out _ ).mono ?_
        rintro e w3 ⟨rfl, hB⟩
        have HB := Lib.hid (HB.out.trans (hB.mono HB.out.size))
        clear hB
        go_wp2_with fail
        go_ret
        exact ⟨rfl, HB.out⟩
    · rw [if_neg z1] at C1
      have hz1 : (vnC ps h n != 0) = true := by simpa using z1
      generalize (if vnC ps h k = 0 then ints (nddN h k.toNat) else []) = Bs at C2
      generalize vnC ps h n = v1 at C1 hz1
      generalize vnC ps h k = v2 at C2
      clear z1 hm
      go_enter Try.func5, Try.ntmps5
      go_upto_region 1 with fail
      rw [← HW0.out]
      have HB := Lib.hid HB0.out
      go_wp2_with fail
      refine (HL.out _ (HH.out.below HB.out (Nat.le_refl _))).mono ?_
      rintro e we ⟨rfl, rfl⟩
      go_upto_region 3 with fail
      go_quiet (fail)
      generalize hwd : World.drewN _ _ = wd
      have HB := Lib.hid (show Below w.heap.size w wd from by rw [← hwd]; exact HB.out.trans ((below_drewN7 w0 _).mono HB.out.size))
      clear x0 x1 hwd
      go_wp2_with fail
      refine (C1.out _ (HP.out.below HB.out (Nat.le_refl _)) (HH.out.below HB.out (Nat.le_refl _))).mono ?_
      rintro e w1 ⟨a1, c1, rfl, ho, hB⟩
      have HB := Lib.hid (HB.out.trans (hB.mono HB.out.size))
      clear hB ho
      go_wp2_with fail
      refine (C2.out _ (HP.out.below HB.out (Nat.le_refl _)) (HH.out.below HB.out (Nat.le_refl _))).mono ?_
      rintro e w2 ⟨a2, c2, rfl, ho, hB⟩
      have HB := Lib.hid (HB.out.trans (hB.mono HB.out.size))
      clear hB ho
      go_wp2_with fail
      refine (HK.out _ ).mono ?_
      rintro e w3 ⟨rfl, hB⟩
      have HB := Lib.hid (HB.out.trans (hB.mono HB.out.size))
      clear hB
      go_wp2_with fail
      go_ret
      exact ⟨rfl, HB.out⟩
  · rw [hl] at HL
    clear hp hh hc hc1 hcg hml hl 
    go_enter Try.func5, Try.ntmps5
    go_wp2_with fail
    refine (HL.out _ (HH.out.below ((Below.refl _ _).alloc (Nat.le_refl _) _) (Nat.le_refl _))).mono ?_
    rintro e w1 ⟨rfl, rfl⟩
    go_wp2_with fail
    refine (HK.out _).mono ?_
    rintro e w2 ⟨rfl, hB⟩
    go_wp2_with fail
    go_ret
    exact ⟨rfl, ((Below.refl _ _).alloc (Nat.le_refl _) _).trans (hB.mono (by simp))⟩

end Go.Proofs.Ytikblaebfpdngaa
