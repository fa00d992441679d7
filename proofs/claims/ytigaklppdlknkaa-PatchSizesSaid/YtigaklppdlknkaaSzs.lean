/- PatchSizes: the walk. -/
import Derived.Test.YtigaklppdlknkaaSz4
import Derived.Test.YtigaklppdlknkaaDoe
set_option linter.unusedVariables false
set_option linter.unusedSimpArgs false
namespace Go.Proofs.Ytigaklppdlknkaa
open Go.RowKit Tinker

theorem okD {ps : List L} {xs : List E} {c : Int} (h : vpx ps xs c = 0) : dist xs := dist_of (vx_ok (vpx_ok h).2.1).2.1
theorem vpx_sub {ps : List L} {xs zs : List E} (hs : zs.Sublist xs) (h : vpx ps xs 0 = 0) : vpx ps zs 0 = 0 := by
  obtain ⟨h1, h2, h3, h4⟩ := vpx_ok h
  obtain ⟨k1, k2, k3⟩ := vx_ok h2
  have hl := hs.length_le
  have hx : vx zs = 0 := by
    refine vx_0 (by omega) (set_of (sub_dist hs (dist_of k2))) fun e he => ?_
    have := k3 e (hs.subset he)
    rw [Bool.and_eq_true]
    exact ⟨btw_true.2 this.1, this.2⟩
  unfold vpx
  rw [h1, hx, if_pos (by rfl), if_pos]
  refine allBtw_of fun n hn => ?_
  obtain ⟨e, he, rfl⟩ := List.mem_map.1 hn
  have a := (k3 e (hs.subset he)).1
  have b := h4 e (hs.subset he)
  omega
theorem cl_sub (ps : List L) (xs : List E) : (clL ps xs).Sublist xs := by unfold clL; exact List.filter_sublist
theorem do_cl {ps : List L} {xs : List E} (h : vpx ps xs 0 = 0) : doL ps (clL ps xs) = doL ps xs := by
  obtain ⟨h1, h2, h3⟩ := okX_at h
  rw [← df_do (okD h) (fun e he => (h1 e he).1) (fun e he => (h1 e he).2)]
  exact do_df (doL_len xs ps).symm
theorem clQ_R (ps : List L) (xs : List E) : clQ ps xs = clR ps xs := by
  unfold clQ clR
  by_cases h : vpx ps xs 0 = 0
  · obtain ⟨h1, h2, h3⟩ := okX_at h
    rw [if_pos h, if_pos h, df_do (okD h) (fun e he => (h1 e he).1) (fun e he => (h1 e he).2)]
  · rw [if_neg h, if_neg h]
theorem szs_facts {ps : List L} {xs : List E} (h : vpx ps xs 0 = 0) : vpx ps (clR ps xs) 0 = 0 ∧ szR ps (clR ps xs) = szR ps xs ∧ doP ps (clR ps xs) = doP ps xs ∧ ((clR ps xs).length : Int) ≤ szR ps xs ∧ (clR ps xs).length ≤ 4 ∧ (doP ps xs).length ≤ 8 := by
  have e : clR ps xs = clL ps xs := by unfold clR; rw [if_pos h]
  have hv := vpx_sub (cl_sub ps xs) h
  obtain ⟨h1, h2, h3⟩ := okX_at h
  have hl := (cl_sub ps xs).length_le
  rw [e]
  unfold szR doP
  rw [if_pos h, if_pos h, if_pos hv, if_pos hv, do_cl h, doL_len]
  exact ⟨hv, (cl_size ps xs).1, rfl, (cl_size ps xs).2, by omega, h2⟩
theorem clR_len (ps : List L) (xs : List E) : (clR ps xs).length ≤ xs.length := by
  unfold clR
  split
  · exact cl_len ps xs
  · simp
theorem szR_le (ps : List L) (xs : List E) : 0 ≤ szR ps xs ∧ szR ps xs ≤ 4 * (xs.length : Int) := by
  unfold szR
  split
  · exact szL_le ps xs
  · constructor <;> omega

set_option maxRecDepth 100000 in
set_option maxHeartbeats 4000000 in
theorem patchSizes_walk (a : Option Addr) (ca : Nat) (ps : List L) (g : Option Addr) (cg : Nat) (xs : List E) (w : World) (hp : LinesAt w a ps) (hc : a = none → ca = 0) (hx : EditsAt w g xs) (hc1 : g = none → cg = 0) :
    Calls Try.prog 7 #[.slice a ps.length ca, .slice g xs.length cg] w fun e w' => e = .returned (.bool true) ∧ Below w.heap.size w w' := by
  clear hc hc1
  have HK := Lib.hid (fun w => sane_true w)
  have HL := Lib.hid (fun w => long4_any a g ps.length xs.length ca cg w)
  by_cases g1 : 100 < ps.length ∨ 100 < xs.length
  · rw [show (decide (100 < ps.length) || decide (100 < xs.length)) = true by simpa using g1] at HL
    clear hp hx g1
    go_enter Try.func7, Try.ntmps7
    go_wp2_with fail
    refine (HL.out _).mono ?_
    rintro e w1 ⟨rfl, rfl⟩
    go_wp2_with fail
    refine (HK.out _).mono ?_
    rintro e w2 ⟨rfl, hB⟩
    go_wp2_with fail
    go_ret
    exact ⟨rfl, hB⟩
  rw [show (decide (100 < ps.length) || decide (100 < xs.length)) = false by simp; omega] at HL
  have hdl := clR_len ps xs
  obtain ⟨s0, s1⟩ := szR_le ps xs
  have s2 : szR ps xs ≤ 400 := by omega
  have C1 := Lib.hid (fun w h h' => pSize_any a g ca cg ps xs w h h' (by omega) (by omega))
  have C2 := Lib.hid (fun w h h' => rSize_any a g ca cg ps xs w h h' (by omega))
  have C3 := Lib.hid (fun w h h' => pClean_any a g ca cg ps xs w h h' (by omega) (by omega))
  have C4 := Lib.hid (fun w h h' => rClean_any a g ca cg ps xs w h h' (by omega))
  have C6 := Lib.hid (fun w h h' => pDo_any a g ca cg ps xs w h h' (by omega) (by omega))
  have S1 := Lib.hid (fun a' b' c' d' w h1 h2 => sameE_self (clR ps xs).length a' b' c' d' (clR ps xs) w rfl h1 h2 (by omega))
  rw [clQ_R] at C3
  have HP := Lib.hid hp
  have HX := Lib.hid hx
  clear s1
  by_cases hz : vpx ps xs 0 = 0
  · obtain ⟨f1, f2, f3, f4, f5, f6⟩ := szs_facts hz
    have C5 := Lib.hid (fun b c w h h' => pSize_any a b ca c ps (clR ps xs) w h h' (by omega) (by omega))
    have C7 := Lib.hid (fun b c w h h' => pDo_any a b ca c ps (clR ps xs) w h h' (by omega) (by omega))
    have S2 := Lib.hid (fun a' b' c' d' w h1 h2 => sameL4_self (doP ps xs).length a' b' c' d' (doP ps xs) w rfl h1 h2 (by omega))
    rw [f1, f2] at C5
    rw [f1, f3] at C7
    rw [hz] at C1 C2 C3 C4 C6
    have F4 := Lib.hid f4
    have g5 : (szR ps xs >= ((clR ps xs).length : Int)) := f4
    clear f1 f2 f3 hz g1 hp hx f4
    generalize clR ps xs = D at *
    generalize szR ps xs = n at *
    generalize doP ps xs = Q at *
    go_enter Try.func7, Try.ntmps7
    go_wp2_with fail
    refine (HL.out _).mono ?_
    rintro e w0 ⟨rfl, rfl⟩
    go_wp2_with fail
    refine (C1.out _ HP.out HX.out).mono ?_
    rintro e w1 ⟨rfl, hB1⟩
    have HB1 := Lib.hid hB1
    clear hB1
    go_wp2_with fail
    refine (C2.out _ (HP.out.below HB1.out (Nat.le_refl _)) (HX.out.below HB1.out (Nat.le_refl _))).mono ?_
    rintro e w2 ⟨rfl, hB2⟩
    have HB2 := Lib.hid (HB1.out.trans (hB2.mono HB1.out.size))
    clear hB2
    go_wp2_with fail
    refine (C3.out _ (HP.out.below HB2.out (Nat.le_refl _)) (HX.out.below HB2.out (Nat.le_refl _))).mono ?_
    rintro e w3 ⟨a3, c3, rfl, h3, hB3⟩
    have R3 := Lib.hid (edits_of_own h3).1
    have HB3 := Lib.hid (HB2.out.trans (hB3.mono HB2.out.size))
    clear h3 hB3
    go_wp2_with fail
    refine (C4.out _ (HP.out.below HB3.out (Nat.le_refl _)) (HX.out.below HB3.out (Nat.le_refl _))).mono ?_
    rintro e w4 ⟨a4, c4, rfl, h4, hB4⟩
    have R3 := Lib.hid (R3.out.below hB4 (Nat.le_refl _))
    have R4 := Lib.hid (edits_of_own h4).1
    have HB4 := Lib.hid (HB3.out.trans (hB4.mono HB3.out.size))
    clear h4 hB4
    go_wp2_with fail
    refine (S1.out _ _ _ _ _ R3.out R4.out).mono ?_
    rintro e w5 ⟨rfl, hB5⟩
    have R3 := Lib.hid (R3.out.below hB5 (Nat.le_refl _))
    have HB5 := Lib.hid (HB4.out.trans (hB5.mono HB4.out.size))
    clear hB5 R4
    go_wp2_with fail
    refine (C5.out _ _ _ (HP.out.below HB5.out (Nat.le_refl _)) R3.out).mono ?_
    rintro e w6 ⟨rfl, hB6⟩
    have R3 := Lib.hid (R3.out.below hB6 (Nat.le_refl _))
    have HB6 := Lib.hid (HB5.out.trans (hB6.mono HB5.out.size))
    clear hB6
    go_wp2_with fail
    refine (C6.out _ (HP.out.below HB6.out (Nat.le_refl _)) (HX.out.below HB6.out (Nat.le_refl _))).mono ?_
    rintro e w7 ⟨a7, c7, rfl, h7, hB7⟩
    have R3 := Lib.hid (R3.out.below hB7 (Nat.le_refl _))
    have R7 := Lib.hid (lines_of_own h7).1
    have HB7 := Lib.hid (HB6.out.trans (hB7.mono HB6.out.size))
    clear h7 hB7
    go_wp2_with fail
    refine (C7.out _ _ _ (HP.out.below HB7.out (Nat.le_refl _)) R3.out).mono ?_
    rintro e w8 ⟨a8, c8, rfl, h8, hB8⟩
    have R7 := Lib.hid (R7.out.below hB8 (Nat.le_refl _))
    have R8 := Lib.hid (lines_of_own h8).1
    have HB8 := Lib.hid (HB7.out.trans (hB8.mono HB7.out.size))
    clear h8 hB8 R3
    go_wp2_with fail
    refine (S2.out _ _ _ _ _ R7.out R8.out).mono ?_
    rintro e w9 ⟨rfl, hB9⟩
    have HB9 := Lib.hid (HB8.out.trans (hB9.mono HB8.out.size))
    clear hB9
    go_wp2_with fail
    refine (HK.out _).mono ?_
    rintro e w9 ⟨rfl, hB⟩
    go_wp2_with fail
    go_ret
    exact ⟨rfl, HB9.out.trans (hB.mono HB9.out.size)⟩
  · have hz1 : (vpx ps xs 0 != 0) = true := by simpa using hz
    have hz2 : (vpx ps xs 0 == 0) = false := by simpa using hz
    clear hz hp hx g1 C6
    generalize clR ps xs = r at *
    generalize szR ps xs = n at *
    generalize vpx ps xs 0 = c at *
    go_enter Try.func7, Try.ntmps7
    go_wp2_with fail
    refine (HL.out _).mono ?_
    rintro e w0 ⟨rfl, rfl⟩
    go_wp2_with fail
    refine (C1.out _ HP.out HX.out).mono ?_
    rintro e w1 ⟨rfl, hB1⟩
    have HB1 := Lib.hid hB1
    clear hB1
    go_wp2_with fail
    refine (C2.out _ (HP.out.below HB1.out (Nat.le_refl _)) (HX.out.below HB1.out (Nat.le_refl _))).mono ?_
    rintro e w2 ⟨rfl, hB2⟩
    have HB2 := Lib.hid (HB1.out.trans (hB2.mono HB1.out.size))
    clear hB2
    go_wp2_with fail
    refine (C3.out _ (HP.out.below HB2.out (Nat.le_refl _)) (HX.out.below HB2.out (Nat.le_refl _))).mono ?_
    rintro e w3 ⟨a3, c3, rfl, h3, hB3⟩
    have R3 := Lib.hid (edits_of_own h3).1
    have HB3 := Lib.hid (HB2.out.trans (hB3.mono HB2.out.size))
    clear h3 hB3
    go_wp2_with fail
    refine (C4.out _ (HP.out.below HB3.out (Nat.le_refl _)) (HX.out.below HB3.out (Nat.le_refl _))).mono ?_
    rintro e w4 ⟨a4, c4, rfl, h4, hB4⟩
    have R3 := Lib.hid (R3.out.below hB4 (Nat.le_refl _))
    have R4 := Lib.hid (edits_of_own h4).1
    have HB4 := Lib.hid (HB3.out.trans (hB4.mono HB3.out.size))
    clear h4 hB4
    go_wp2_with fail
    refine (S1.out _ _ _ _ _ R3.out R4.out).mono ?_
    rintro e w5 ⟨rfl, hB5⟩
    have HB5 := Lib.hid (HB4.out.trans (hB5.mono HB4.out.size))
    clear hB5 R4 R3
    go_wp2_with fail
    refine (HK.out _).mono ?_
    rintro e w9 ⟨rfl, hB⟩
    go_wp2_with fail
    go_ret
    exact ⟨rfl, HB5.out.trans (hB.mono HB5.out.size)⟩

end Go.Proofs.Ytigaklppdlknkaa
