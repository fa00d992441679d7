/- PatchUndoes: the walk. -/
import Derived.Test.YtigaklppdlknkaaRi4
import Derived.Test.YtigaklppdlknkaaDoe
set_option linter.unusedVariables false
set_option linter.unusedSimpArgs false
namespace Go.Proofs.Ytigaklppdlknkaa
open Go.RowKit Tinker

theorem inv_vpx {ps : List L} {xs : List E} (h : vpx ps xs 0 = 0) : vpx (doL ps xs) (invL ps xs) 0 = 0 := by
  obtain ⟨h1, h2, _, h4⟩ := vpx_ok h
  obtain ⟨k1, k2, k3⟩ := vx_ok h2
  have hv := doL_vp h1 (fun e he => (k3 e he).2)
  have hx : vx (invL ps xs) = 0 := by
    refine vx_0 (by rw [inv_len]; exact k1) (by rw [inv_pl]; exact k2) fun e he => ?_
    obtain ⟨x, hx, rfl⟩ := List.mem_map.1 he
    have := k3 x hx
    rw [Bool.and_eq_true]
    refine ⟨btw_true.2 this.1, ?_⟩
    obtain ⟨l, hl⟩ := get_of_lt (h4 x hx)
    show isLn (ps.getD x.at_.toNat _) = true
    rw [getD_of_get hl]
    exact (vp_ok h1).2 l (mem_of_get hl)
  unfold vpx
  rw [hv, hx, if_pos (by rfl), if_pos]
  refine allBtw_of fun n hn => ?_
  rw [inv_pl] at hn
  obtain ⟨e, he, rfl⟩ := List.mem_map.1 hn
  have := (k3 e he).1
  have := h4 e he
  rw [doL_len]
  omega
theorem und_facts {ps : List L} {xs : List E} (h : vpx ps xs 0 = 0) : doP ps xs = doL ps xs ∧ inR ps xs = invL ps xs ∧ doP (doL ps xs) (invL ps xs) = ps ∧ inR (doL ps xs) (invL ps xs) = xs := by
  obtain ⟨h1, h2, _, h4⟩ := vpx_ok h
  obtain ⟨k1, k2, k3⟩ := vx_ok h2
  have hd := dist_of k2
  have h0 : ∀ e ∈ xs, 0 ≤ e.at_ := fun e he => (k3 e he).1.1
  refine ⟨by unfold doP; rw [if_pos h], by unfold inR; rw [if_pos h], ?_, ?_⟩
  · unfold doP; rw [if_pos (inv_vpx h)]; exact do_inv hd h0
  · unfold inR; rw [if_pos (inv_vpx h)]; exact inv_inv hd h0 h4
theorem inR_len (ps : List L) (xs : List E) : (inR ps xs).length ≤ xs.length := by
  unfold inR
  split
  · rw [inv_len]; exact Nat.le_refl _
  · simp

set_option maxRecDepth 100000 in
set_option maxHeartbeats 4000000 in
theorem patchUndoes_walk (a : Option Addr) (ca : Nat) (ps : List L) (g : Option Addr) (cg : Nat) (xs : List E) (w : World) (hp : LinesAt w a ps) (hc : a = none → ca = 0) (hx : EditsAt w g xs) (hc1 : g = none → cg = 0) :
    Calls Try.prog 5 #[.slice a ps.length ca, .slice g xs.length cg] w fun e w' => e = .returned (.bool true) ∧ Below w.heap.size w w' := by
  clear hc hc1
  have HK := Lib.hid (fun w => sane_true w)
  have HL := Lib.hid (fun w => long4_any a g ps.length xs.length ca cg w)
  by_cases g1 : 100 < ps.length ∨ 100 < xs.length
  · rw [show (decide (100 < ps.length) || decide (100 < xs.length)) = true by simpa using g1] at HL
    clear hp hx g1
    go_enter Try.func5, Try.ntmps5
    go_wp2_with fail
    refine (HL.out _).mono ?_
    rintro e w1 ⟨rfl, rfl⟩
    go_wp2_with fail
    refine (HK.out _).mono ?_
    rintro e w2 ⟨rfl, hB⟩
    go_wp2_with fail
    go_ret
    exact ⟨rfl, hB⟩
  rw [show (decide (100 < ps.length) || decide (100 < xs.length)) = false by simp; omega] at HL
  have hil := inR_len ps xs
  have C1 := Lib.hid (fun w h h' => pInverse_any a g ca cg ps xs w h h' (by omega) (by omega))
  have C2 := Lib.hid (fun w h h' => rInverse4_any a g ca cg ps xs w h h' (by omega))
  have S1 := Lib.hid (fun a' b' c' d' w h1 h2 => sameE_self (inR ps xs).length a' b' c' d' (inR ps xs) w rfl h1 h2 (by omega))
  have HP := Lib.hid hp
  have HX := Lib.hid hx
  by_cases hz : vpx ps xs 0 = 0
  · obtain ⟨f1, f2, f3, f4⟩ := und_facts hz
    have fz := inv_vpx hz
    have hll := doL_len xs ps
    have hil2 := inv_len ps xs
    have C3 := Lib.hid (fun w h h' => pDo_any a g ca cg ps xs w h h' (by omega) (by omega))
    have C4 := Lib.hid (fun b d c e w h h' => pDo_any b d c e (doL ps xs) (invL ps xs) w h h' (by omega) (by omega))
    have C5 := Lib.hid (fun b d c e w h h' => pInverse_any b d c e (doL ps xs) (invL ps xs) w h h' (by omega) (by omega))
    have S2 := Lib.hid (fun a' b' c' d' w h1 h2 => sameL4_self ps.length a' b' c' d' ps w rfl h1 h2 (by omega))
    have S3 := Lib.hid (fun a' b' c' d' w h1 h2 => sameE_self xs.length a' b' c' d' xs w rfl h1 h2 (by omega))
    rw [f1, hz] at C3
    rw [f3, fz, hll, hil2] at C4
    rw [f4, fz, hll, hil2] at C5
    rw [hz] at C1 C2
    rw [f2] at C1 C2 S1
    rw [hil2] at S1
    have HIL := Lib.hid hil2
    have HLL := Lib.hid hll
    generalize invL ps xs = iv' at C1 C2 C4 C5 S1 HIL
    generalize doL ps xs = q at C3 C4 C5 HLL
    clear f1 f2 f3 f4 fz hz hil hll hil2 hp hx g1
    go_enter Try.func5, Try.ntmps5
    go_wp2_with fail
    refine (HL.out _).mono ?_
    rintro e w0 ⟨rfl, rfl⟩
    go_wp2_with fail
    refine (C1.out _ HP.out HX.out).mono ?_
    rintro e w1 ⟨a1, c1, rfl, h1, hB1⟩
    have R1 := Lib.hid (edits_of_own h1).1
    have HB1 := Lib.hid hB1
    clear h1 hB1
    rw [HIL.out]
    go_wp2_with fail
    refine (C2.out _ (HP.out.below HB1.out (Nat.le_refl _)) (HX.out.below HB1.out (Nat.le_refl _))).mono ?_
    rintro e w2 ⟨a2, c2, rfl, h2, hB2⟩
    have R1 := Lib.hid (R1.out.below hB2 (Nat.le_refl _))
    have R2 := Lib.hid (edits_of_own h2).1
    have HB2 := Lib.hid (HB1.out.trans (hB2.mono HB1.out.size))
    clear h2 hB2
    rw [HIL.out]
    go_wp2_with fail
    refine (S1.out _ _ _ _ _ R1.out R2.out).mono ?_
    rintro e w3 ⟨rfl, hB3⟩
    have R1 := Lib.hid (R1.out.below hB3 (Nat.le_refl _))
    have HB3 := Lib.hid (HB2.out.trans (hB3.mono HB2.out.size))
    clear hB3 R2
    go_wp2_with fail
    refine (C3.out _ (HP.out.below HB3.out (Nat.le_refl _)) (HX.out.below HB3.out (Nat.le_refl _))).mono ?_
    rintro e w4 ⟨a4, c4, rfl, h4, hB4⟩
    have R1 := Lib.hid (R1.out.below hB4 (Nat.le_refl _))
    have R4 := Lib.hid (lines_of_own h4).1
    have HB4 := Lib.hid (HB3.out.trans (hB4.mono HB3.out.size))
    clear h4 hB4
    rw [HLL.out]
    go_wp2_with fail
    refine (C4.out _ _ _ _ _ R4.out R1.out).mono ?_
    rintro e w5 ⟨a5, c5, rfl, h5, hB5⟩
    have R1 := Lib.hid (R1.out.below hB5 (Nat.le_refl _))
    have R4 := Lib.hid (R4.out.below hB5 (Nat.le_refl _))
    have R5 := Lib.hid (lines_of_own h5).1
    have HB5 := Lib.hid (HB4.out.trans (hB5.mono HB4.out.size))
    clear h5 hB5
    go_wp2_with fail
    refine (C5.out _ _ _ _ _ R4.out R1.out).mono ?_
    rintro e w6 ⟨a6, c6, rfl, h6, hB6⟩
    have R5 := Lib.hid (R5.out.below hB6 (Nat.le_refl _))
    have R6 := Lib.hid (edits_of_own h6).1
    have HB6 := Lib.hid (HB5.out.trans (hB6.mono HB5.out.size))
    clear h6 hB6
    go_wp2_with fail
    refine (S2.out _ _ _ _ _ R5.out (HP.out.below HB6.out (Nat.le_refl _))).mono ?_
    rintro e w7 ⟨rfl, hB7⟩
    have R6 := Lib.hid (R6.out.below hB7 (Nat.le_refl _))
    have HB7 := Lib.hid (HB6.out.trans (hB7.mono HB6.out.size))
    clear hB7
    go_wp2_with fail
    refine (S3.out _ _ _ _ _ R6.out (HX.out.below HB7.out (Nat.le_refl _))).mono ?_
    rintro e w8 ⟨rfl, hB8⟩
    have HB8 := Lib.hid (HB7.out.trans (hB8.mono HB7.out.size))
    clear hB8
    go_wp2_with fail
    refine (HK.out _).mono ?_
    rintro e w9 ⟨rfl, hB⟩
    go_wp2_with fail
    go_ret
    exact ⟨rfl, HB8.out.trans (hB.mono HB8.out.size)⟩
  · have hz1 : (vpx ps xs 0 != 0) = true := by simpa using hz
    have hz2 : (vpx ps xs 0 == 0) = false := by simpa using hz
    clear hz hp hx g1
    generalize inR ps xs = r at C1 C2 S1 hil
    generalize vpx ps xs 0 = c at C1 C2 hz1 hz2
    go_enter Try.func5, Try.ntmps5
    go_wp2_with fail
    refine (HL.out _).mono ?_
    rintro e w0 ⟨rfl, rfl⟩
    go_wp2_with fail
    refine (C1.out _ HP.out HX.out).mono ?_
    rintro e w1 ⟨a1, c1, rfl, h1, hB1⟩
    have R1 := Lib.hid (edits_of_own h1).1
    have HB1 := Lib.hid hB1
    clear h1 hB1
    go_wp2_with fail
    refine (C2.out _ (HP.out.below HB1.out (Nat.le_refl _)) (HX.out.below HB1.out (Nat.le_refl _))).mono ?_
    rintro e w2 ⟨a2, c2, rfl, h2, hB2⟩
    have R1 := Lib.hid (R1.out.below hB2 (Nat.le_refl _))
    have R2 := Lib.hid (edits_of_own h2).1
    have HB2 := Lib.hid (HB1.out.trans (hB2.mono HB1.out.size))
    clear h2 hB2
    go_wp2_with fail
    refine (S1.out _ _ _ _ _ R1.out R2.out).mono ?_
    rintro e w3 ⟨rfl, hB3⟩
    have HB3 := Lib.hid (HB2.out.trans (hB3.mono HB2.out.size))
    clear hB3 R1 R2
    go_wp2_with fail
    refine (HK.out _).mono ?_
    rintro e w9 ⟨rfl, hB⟩
    go_wp2_with fail
    go_ret
    exact ⟨rfl, HB3.out.trans (hB.mono HB3.out.size)⟩

end Go.Proofs.Ytigaklppdlknkaa
