/- Several texts in one. -/
import Derived.Test.YtikblaebfpdngaaHtL
import Derived.Test.YtikblaebfpdngaaHtJ
import Derived.Test.YtikblaebfpdngaaSm4
import Derived.Test.YtikblaebfpdngaaHtM
import Derived.Test.YtikblaebfpdngaaPtS
/- The example of the chapter: sane of tinkerlaw07. -/
set_option linter.unusedVariables false
set_option linter.unusedSimpArgs false
namespace Tinker
def P7 : List L := [⟨1, 0, 9, 0⟩, ⟨1, 1, 9, 0⟩]
def E71 : E := ⟨0, ⟨1, 0, 1, 0⟩⟩
def E72 : E := ⟨1, ⟨1, 1, 2, 0⟩⟩
def H7 : List (List E) := [[E71], [E72], [E71, E72]]
theorem p7_vst : vst P7 H7 = 0 := by decide +kernel
theorem p7_cnt : cntO H7 = 2 := by decide +kernel
theorem p7_rvC : rvC P7 H7 [0] = 0 := by decide +kernel
theorem p7_rvS : rvS P7 H7 [0] = [1] := by decide +kernel
theorem p7_vnC : vnC P7 H7 2 = 0 := by decide +kernel
theorem p7_ned : ints (nedN H7 2) = [0, 1] := by decide +kernel
end Tinker
namespace Go.Proofs.Ytikblaebfpdngaa
open Go.RowKit Tinker

theorem bedits_heap {W : World} {b : Nat} {t : TypeId} {zs : List E} (h : W.heap[b]? = some (.cells (ec zs).toArray t (0, 0))) : BEdits W b zs := ⟨hp_lt h, fun j u hu => hp_cell h (by simpa using hu)⟩
theorem lines_heap {W : World} {b : Nat} {t : TypeId} {ps : List L} (h : W.heap[b]? = some (.cells (lc ps).toArray t (0, 0))) : LinesAt W (some ⟨b, 0, none⟩) ps := by
  refine .inr ⟨b, 0, rfl, hp_lt h, fun j l hj => ?_⟩
  obtain ⟨q0, q1, q2, q3⟩ := lc_get hj
  rw [Nat.zero_add]
  exact ⟨hp_cell h (by simpa using q0), hp_cell h (by simpa using q1), hp_cell h (by simpa using q2), hp_cell h (by simpa using q3)⟩
/-- The world behind the example's lists. -/
theorem world7 (w : World) : Below w.heap.size w (((((((w.alloc (.cells #[.int .i64 1, .int .i64 0, .int .i64 9, .int .i64 0, .int .i64 1, .int .i64 1, .int .i64 9, .int .i64 0] 33)).alloc (.cells #[.int .i64 0, .int .i64 1, .int .i64 0, .int .i64 1, .int .i64 0] 50)).alloc (.cells #[.int .i64 1, .int .i64 1, .int .i64 1, .int .i64 2, .int .i64 0] 50)).alloc (.cells #[.int .i64 0, .int .i64 1, .int .i64 0, .int .i64 1, .int .i64 0] 50)).alloc (.cells #[.int .i64 1, .int .i64 1, .int .i64 1, .int .i64 2, .int .i64 0] 50)).alloc (.cells #[.int .i64 0, .int .i64 1, .int .i64 0, .int .i64 1, .int .i64 0, .int .i64 1, .int .i64 1, .int .i64 1, .int .i64 2, .int .i64 0] 50)).alloc (.cells #[.slice (some ⟨w.heap.size + 1 + 1 + 1, 0, none⟩) 1 1, .slice (some ⟨w.heap.size + 1 + 1 + 1 + 1, 0, none⟩) 1 1, .slice (some ⟨w.heap.size + 1 + 1 + 1 + 1 + 1, 0, none⟩) 2 2] 46)) ∧ LinesAt (((((((w.alloc (.cells #[.int .i64 1, .int .i64 0, .int .i64 9, .int .i64 0, .int .i64 1, .int .i64 1, .int .i64 9, .int .i64 0] 33)).alloc (.cells #[.int .i64 0, .int .i64 1, .int .i64 0, .int .i64 1, .int .i64 0] 50)).alloc (.cells #[.int .i64 1, .int .i64 1, .int .i64 1, .int .i64 2, .int .i64 0] 50)).alloc (.cells #[.int .i64 0, .int .i64 1, .int .i64 0, .int .i64 1, .int .i64 0] 50)).alloc (.cells #[.int .i64 1, .int .i64 1, .int .i64 1, .int .i64 2, .int .i64 0] 50)).alloc (.cells #[.int .i64 0, .int .i64 1, .int .i64 0, .int .i64 1, .int .i64 0, .int .i64 1, .int .i64 1, .int .i64 1, .int .i64 2, .int .i64 0] 50)).alloc (.cells #[.slice (some ⟨w.heap.size + 1 + 1 + 1, 0, none⟩) 1 1, .slice (some ⟨w.heap.size + 1 + 1 + 1 + 1, 0, none⟩) 1 1, .slice (some ⟨w.heap.size + 1 + 1 + 1 + 1 + 1, 0, none⟩) 2 2] 46)) (some ⟨w.heap.size, 0, none⟩) P7 ∧ RowsEAt (((((((w.alloc (.cells #[.int .i64 1, .int .i64 0, .int .i64 9, .int .i64 0, .int .i64 1, .int .i64 1, .int .i64 9, .int .i64 0] 33)).alloc (.cells #[.int .i64 0, .int .i64 1, .int .i64 0, .int .i64 1, .int .i64 0] 50)).alloc (.cells #[.int .i64 1, .int .i64 1, .int .i64 1, .int .i64 2, .int .i64 0] 50)).alloc (.cells #[.int .i64 0, .int .i64 1, .int .i64 0, .int .i64 1, .int .i64 0] 50)).alloc (.cells #[.int .i64 1, .int .i64 1, .int .i64 1, .int .i64 2, .int .i64 0] 50)).alloc (.cells #[.int .i64 0, .int .i64 1, .int .i64 0, .int .i64 1, .int .i64 0, .int .i64 1, .int .i64 1, .int .i64 1, .int .i64 2, .int .i64 0] 50)).alloc (.cells #[.slice (some ⟨w.heap.size + 1 + 1 + 1, 0, none⟩) 1 1, .slice (some ⟨w.heap.size + 1 + 1 + 1 + 1, 0, none⟩) 1 1, .slice (some ⟨w.heap.size + 1 + 1 + 1 + 1 + 1, 0, none⟩) 2 2] 46)) (some ⟨w.heap.size + 1 + 1 + 1 + 1 + 1 + 1, 0, none⟩) H7 := by
  obtain ⟨v0, hv0⟩ : ∃ v0, v0 = w := ⟨_, rfl⟩
  rw [← hv0]
  obtain ⟨N0, hN⟩ : ∃ N0, N0 = v0.heap.size := ⟨_, rfl⟩
  rw [← hN]
  have s0 : v0.heap.size = N0 := hN.symm
  clear hv0 hN
  have h0 := heap_new v0 (.cells #[.int .i64 1, .int .i64 0, .int .i64 9, .int .i64 0, .int .i64 1, .int .i64 1, .int .i64 9, .int .i64 0] 33)
  have b0 := (Below.refl v0.heap.size v0).alloc (Nat.le_refl _) (.cells #[.int .i64 1, .int .i64 0, .int .i64 9, .int .i64 0, .int .i64 1, .int .i64 1, .int .i64 9, .int .i64 0] 33)
  have s1 : (v0.alloc (.cells #[.int .i64 1, .int .i64 0, .int .i64 9, .int .i64 0, .int .i64 1, .int .i64 1, .int .i64 9, .int .i64 0] 33)).heap.size = N0 + 1 := by simp [s0]
  rw [s0] at h0
  generalize v0.alloc (.cells #[.int .i64 1, .int .i64 0, .int .i64 9, .int .i64 0, .int .i64 1, .int .i64 1, .int .i64 9, .int .i64 0] 33) = v1 at *
  have h1 := heap_new v1 (.cells #[.int .i64 0, .int .i64 1, .int .i64 0, .int .i64 1, .int .i64 0] 50)
  have b1 := (Below.refl v1.heap.size v1).alloc (Nat.le_refl _) (.cells #[.int .i64 0, .int .i64 1, .int .i64 0, .int .i64 1, .int .i64 0] 50)
  have s2 : (v1.alloc (.cells #[.int .i64 0, .int .i64 1, .int .i64 0, .int .i64 1, .int .i64 0] 50)).heap.size = N0 + 1 + 1 := by simp [s1]
  rw [s1] at h1
  generalize v1.alloc (.cells #[.int .i64 0, .int .i64 1, .int .i64 0, .int .i64 1, .int .i64 0] 50) = v2 at *
  have h2 := heap_new v2 (.cells #[.int .i64 1, .int .i64 1, .int .i64 1, .int .i64 2, .int .i64 0] 50)
  have b2 := (Below.refl v2.heap.size v2).alloc (Nat.le_refl _) (.cells #[.int .i64 1, .int .i64 1, .int .i64 1, .int .i64 2, .int .i64 0] 50)
  have s3 : (v2.alloc (.cells #[.int .i64 1, .int .i64 1, .int .i64 1, .int .i64 2, .int .i64 0] 50)).heap.size = N0 + 1 + 1 + 1 := by simp [s2]
  rw [s2] at h2
  generalize v2.alloc (.cells #[.int .i64 1, .int .i64 1, .int .i64 1, .int .i64 2, .int .i64 0] 50) = v3 at *
  have h3 := heap_new v3 (.cells #[.int .i64 0, .int .i64 1, .int .i64 0, .int .i64 1, .int .i64 0] 50)
  have b3 := (Below.refl v3.heap.size v3).alloc (Nat.le_refl _) (.cells #[.int .i64 0, .int .i64 1, .int .i64 0, .int .i64 1, .int .i64 0] 50)
  have s4 : (v3.alloc (.cells #[.int .i64 0, .int .i64 1, .int .i64 0, .int .i64 1, .int .i64 0] 50)).heap.size = N0 + 1 + 1 + 1 + 1 := by simp [s3]
  rw [s3] at h3
  generalize v3.alloc (.cells #[.int .i64 0, .int .i64 1, .int .i64 0, .int .i64 1, .int .i64 0] 50) = v4 at *
  have h4 := heap_new v4 (.cells #[.int .i64 1, .int .i64 1, .int .i64 1, .int .i64 2, .int .i64 0] 50)
  have b4 := (Below.refl v4.heap.size v4).alloc (Nat.le_refl _) (.cells #[.int .i64 1, .int .i64 1, .int .i64 1, .int .i64 2, .int .i64 0] 50)
  have s5 : (v4.alloc (.cells #[.int .i64 1, .int .i64 1, .int .i64 1, .int .i64 2, .int .i64 0] 50)).heap.size = N0 + 1 + 1 + 1 + 1 + 1 := by simp [s4]
  rw [s4] at h4
  generalize v4.alloc (.cells #[.int .i64 1, .int .i64 1, .int .i64 1, .int .i64 2, .int .i64 0] 50) = v5 at *
  have h5 := heap_new v5 (.cells #[.int .i64 0, .int .i64 1, .int .i64 0, .int .i64 1, .int .i64 0, .int .i64 1, .int .i64 1, .int .i64 1, .int .i64 2, .int .i64 0] 50)
  have b5 := (Below.refl v5.heap.size v5).alloc (Nat.le_refl _) (.cells #[.int .i64 0, .int .i64 1, .int .i64 0, .int .i64 1, .int .i64 0, .int .i64 1, .int .i64 1, .int .i64 1, .int .i64 2, .int .i64 0] 50)
  have s6 : (v5.alloc (.cells #[.int .i64 0, .int .i64 1, .int .i64 0, .int .i64 1, .int .i64 0, .int .i64 1, .int .i64 1, .int .i64 1, .int .i64 2, .int .i64 0] 50)).heap.size = N0 + 1 + 1 + 1 + 1 + 1 + 1 := by simp [s5]
  rw [s5] at h5
  generalize v5.alloc (.cells #[.int .i64 0, .int .i64 1, .int .i64 0, .int .i64 1, .int .i64 0, .int .i64 1, .int .i64 1, .int .i64 1, .int .i64 2, .int .i64 0] 50) = v6 at *
  have h6 := heap_new v6 (.cells #[.slice (some ⟨N0 + 1 + 1 + 1, 0, none⟩) 1 1, .slice (some ⟨N0 + 1 + 1 + 1 + 1, 0, none⟩) 1 1, .slice (some ⟨N0 + 1 + 1 + 1 + 1 + 1, 0, none⟩) 2 2] 46)
  have b6 := (Below.refl v6.heap.size v6).alloc (Nat.le_refl _) (.cells #[.slice (some ⟨N0 + 1 + 1 + 1, 0, none⟩) 1 1, .slice (some ⟨N0 + 1 + 1 + 1 + 1, 0, none⟩) 1 1, .slice (some ⟨N0 + 1 + 1 + 1 + 1 + 1, 0, none⟩) 2 2] 46)
  have s7 : (v6.alloc (.cells #[.slice (some ⟨N0 + 1 + 1 + 1, 0, none⟩) 1 1, .slice (some ⟨N0 + 1 + 1 + 1 + 1, 0, none⟩) 1 1, .slice (some ⟨N0 + 1 + 1 + 1 + 1 + 1, 0, none⟩) 2 2] 46)).heap.size = N0 + 1 + 1 + 1 + 1 + 1 + 1 + 1 := by simp [s6]
  rw [s6] at h6
  generalize v6.alloc (.cells #[.slice (some ⟨N0 + 1 + 1 + 1, 0, none⟩) 1 1, .slice (some ⟨N0 + 1 + 1 + 1 + 1, 0, none⟩) 1 1, .slice (some ⟨N0 + 1 + 1 + 1 + 1 + 1, 0, none⟩) 2 2] 46) = v7 at *
  have c6 := b6
  have c5 := b5.trans (c6.mono b5.size)
  have c4 := b4.trans (c5.mono b4.size)
  have c3 := b3.trans (c4.mono b3.size)
  have c2 := b2.trans (c3.mono b2.size)
  have c1 := b1.trans (c2.mono b1.size)
  have c0 := b0.trans (c1.mono b0.size)
  refine ⟨by rw [← s0]; exact c0, lines_heap (hp_below h0 c1 (hp_lt h0)), .inr ⟨N0 + 1 + 1 + 1 + 1 + 1 + 1, 0, rfl, hp_lt h6, fun j zs hj => ?_⟩⟩
  have q3 := (bedits_heap (zs := [E71]) (hp_below h3 c4 (hp_lt h3))).at_
  have q4 := (bedits_heap (zs := [E72]) (hp_below h4 c5 (hp_lt h4))).at_
  have q5 := (bedits_heap (zs := [E71, E72]) (hp_below h5 c6 (hp_lt h5))).at_
  match j, hj with
  | 0, hj => injection hj with hj; subst hj; exact ⟨_, _, hp_cell h6 (j := 0) rfl, q3⟩
  | 1, hj => injection hj with hj; subst hj; exact ⟨_, _, hp_cell h6 (j := 1) rfl, q4⟩
  | 2, hj => injection hj with hj; subst hj; exact ⟨_, _, hp_cell h6 (j := 2) rfl, q5⟩
  | j + 3, hj => simp [H7] at hj

set_option maxRecDepth 100000 in
set_option maxHeartbeats 2000000 in
theorem sane7_true (w : World) : Calls Try.prog 11 #[] w fun e w' => e = .returned (.bool true) ∧ Below w.heap.size w w' := by
  obtain ⟨hB, hL, hR⟩ := world7 w
  obtain ⟨W7, hW⟩ : ∃ W7, W7 = ((((((w.alloc (.cells #[.int .i64 1, .int .i64 0, .int .i64 9, .int .i64 0, .int .i64 1, .int .i64 1, .int .i64 9, .int .i64 0] 33)).alloc (.cells #[.int .i64 0, .int .i64 1, .int .i64 0, .int .i64 1, .int .i64 0] 50)).alloc (.cells #[.int .i64 1, .int .i64 1, .int .i64 1, .int .i64 2, .int .i64 0] 50)).alloc (.cells #[.int .i64 0, .int .i64 1, .int .i64 0, .int .i64 1, .int .i64 0] 50)).alloc (.cells #[.int .i64 1, .int .i64 1, .int .i64 1, .int .i64 2, .int .i64 0] 50)).alloc (.cells #[.int .i64 0, .int .i64 1, .int .i64 0, .int .i64 1, .int .i64 0, .int .i64 1, .int .i64 1, .int .i64 1, .int .i64 2, .int .i64 0] 50)).alloc (.cells #[.slice (some ⟨w.heap.size + 1 + 1 + 1, 0, none⟩) 1 1, .slice (some ⟨w.heap.size + 1 + 1 + 1 + 1, 0, none⟩) 1 1, .slice (some ⟨w.heap.size + 1 + 1 + 1 + 1 + 1, 0, none⟩) 2 2] 46) := ⟨_, rfl⟩
  rw [← hW] at hB hL hR
  have hm : ∀ x ∈ H7, x.length ≤ 1000 := by decide
  have HC1 := Lib.hid (show Calls Try.prog 36 #[.slice (some ⟨w.heap.size, 0, none⟩) 2 2, .slice (some ⟨w.heap.size + 1 + 1 + 1 + 1 + 1 + 1, 0, none⟩) 3 3] W7 (fun e w' => e = .returned (.tuple #[.int .i64 2, .int .i64 0]) ∧ Below W7.heap.size W7 w') from by
    have h9 := stCount_any (some ⟨w.heap.size, 0, none⟩) (some ⟨w.heap.size + 1 + 1 + 1 + 1 + 1 + 1, 0, none⟩) 2 3 P7 H7 W7 hL hR (by decide) (by decide) hm
    rw [p7_vst, if_pos rfl, p7_cnt] at h9
    exact h9)
  have HC2 := Lib.hid (fun v W (h1 : LinesAt W (some ⟨w.heap.size, 0, none⟩) P7) h2 h3 => show Calls Try.prog 27 #[.slice (some ⟨w.heap.size, 0, none⟩) 2 2, .slice (some ⟨w.heap.size + 1 + 1 + 1 + 1 + 1 + 1, 0, none⟩) 3 3, .slice v 1 1] W (HandsRev (rvR P7 H7 [0]) [1] 0 W) from by
    have h9 := stRevert_any (some ⟨w.heap.size, 0, none⟩) (some ⟨w.heap.size + 1 + 1 + 1 + 1 + 1 + 1, 0, none⟩) v 2 3 1 P7 H7 [0] W h1 h2 h3 (by decide) (by decide) hm (by decide) (by decide)
    rw [p7_rvC, p7_rvS] at h9
    exact h9)
  have HC3 := Lib.hid (fun W (h1 : LinesAt W (some ⟨w.heap.size, 0, none⟩) P7) h2 => show Calls Try.prog 21 #[.slice (some ⟨w.heap.size, 0, none⟩) 2 2, .slice (some ⟨w.heap.size + 1 + 1 + 1 + 1 + 1 + 1, 0, none⟩) 3 3, .int .i64 2] W (GivesIntsE [0, 1] 0 W) from by
    have h9 := stNeeds_any (some ⟨w.heap.size, 0, none⟩) (some ⟨w.heap.size + 1 + 1 + 1 + 1 + 1 + 1, 0, none⟩) 2 3 P7 H7 2 W h1 h2 (by decide) (by decide) hm
    rw [p7_vnC, if_pos rfl, show (2 : Int).toNat = 2 from rfl, p7_ned] at h9
    exact h9)
  have HB := Lib.hid hB
  have HL := Lib.hid hL
  have HR := Lib.hid hR
  have HW := Lib.hid hW
  clear hB hL hR hW hm
  go_enter Try.func11, Try.ntmps11
  go_upto_region 5 with fail
  rw [← HW.out]
  go_wp2_with fail
  refine HC1.out.mono ?_
  rintro e w1 ⟨rfl, hB1⟩
  have HB1 := Lib.hid (HB.out.trans (hB1.mono HB.out.size))
  have HL1 := Lib.hid (HL.out.below hB1 (Nat.le_refl _))
  have HR1 := Lib.hid (HR.out.below hB1 (Nat.le_refl _))
  clear hB1
  have hz : ∀ t, IntsAt (w1.alloc (.cells #[.int .i64 0] t)) (some ⟨w1.heap.size, 0, none⟩) [0] := fun t => .inr ⟨w1.heap.size, 0, rfl, by simp, fun j n hj => by
    match j, hj with
    | 0, hj => injection hj with hj; subst hj; exact hp_cell (hp_new rfl) (j := 0) rfl⟩
  have hb1 : ∀ t, Below w1.heap.size w1 (w1.alloc (.cells #[.int .i64 0] t)) := fun t => (Below.refl _ _).alloc (Nat.le_refl _) _
  have HZ1 := Lib.hid (hz 3)
  have HBB1 := Lib.hid (hb1 3)
  clear hz hb1
  go_wp2_with fail
  refine (HC2.out _ _ (HL1.out.below HBB1.out (Nat.le_refl _)) (HR1.out.below HBB1.out (Nat.le_refl _)) HZ1.out).mono ?_
  rintro e w2 ⟨a2, ca2, b2, cb2, rfl, hl2, hi2, hB2⟩
  have HB2 := Lib.hid (HB1.out.trans ((HBB1.out.trans (hB2.mono HBB1.out.size)).mono HB1.out.size))
  have HL2 := Lib.hid (HL1.out.below (HBB1.out.trans (hB2.mono HBB1.out.size)) (Nat.le_refl _))
  have HR2 := Lib.hid (HR1.out.below (HBB1.out.trans (hB2.mono HBB1.out.size)) (Nat.le_refl _))
  have HI2 := Lib.hid hi2
  clear hl2 hi2 hB2 HZ1
  simp only [List.length_cons, List.length_nil, Nat.zero_add]
  go_wp2_with fail
  refine (HC3.out _ HL2.out HR2.out).mono ?_
  rintro e w3 ⟨a3, c3, rfl, ho3, hB3⟩
  have HB3 := Lib.hid (HB2.out.trans (hB3.mono HB2.out.size))
  have HI3 := Lib.hid (HI2.out.below hB3 (Nat.le_refl _))
  have HJ3 := Lib.hid (ints_of_own ho3).1
  clear hB3 ho3 HL2 HR2
  simp only [List.length_cons, List.length_nil, Nat.zero_add]
  have hal := (Below.refl w3.heap.size w3).alloc (Nat.le_refl _) (.cells #[.int .i64 1] 3)
  have hz1 : IntsAt (w3.alloc (.cells #[.int .i64 1] 3)) (some ⟨w3.heap.size, 0, none⟩) [1] := .inr ⟨w3.heap.size, 0, rfl, by simp, fun j n hj => by
    match j, hj with
    | 0, hj => injection hj with hj; subst hj; exact hp_cell (hp_new rfl) (j := 0) rfl⟩
  have HS1 := Lib.hid (sameI4_self 1 b2 (some ⟨w3.heap.size, 0, none⟩) cb2 1 [1] _ rfl (HI3.out.below hal (Nat.le_refl _)) hz1 (by omega))
  have HA1 := Lib.hid hal
  clear hal hz1
  go_wp2_with fail
  refine HS1.out.mono ?_
  rintro e w4 ⟨rfl, hB4⟩
  have HB4 := Lib.hid (HB3.out.trans ((HA1.out.trans (hB4.mono HA1.out.size)).mono HB3.out.size))
  have HJ4 := Lib.hid (HJ3.out.below (HA1.out.trans (hB4.mono HA1.out.size)) (Nat.le_refl _))
  clear hB4
  have hal := (Below.refl w4.heap.size w4).alloc (Nat.le_refl _) (.cells #[.int .i64 0, .int .i64 1] 3)
  have hz1 : IntsAt (w4.alloc (.cells #[.int .i64 0, .int .i64 1] 3)) (some ⟨w4.heap.size, 0, none⟩) [0, 1] := .inr ⟨w4.heap.size, 0, rfl, by simp, fun j n hj => by
    match j, hj with
    | 0, hj => injection hj with hj; subst hj; exact hp_cell (hp_new rfl) (j := 0) rfl
    | 1, hj => injection hj with hj; subst hj; exact hp_cell (hp_new rfl) (j := 1) rfl⟩
  have HS2 := Lib.hid (sameI4_self 2 a3 (some ⟨w4.heap.size, 0, none⟩) c3 2 [0, 1] _ rfl (HJ4.out.below hal (Nat.le_refl _)) hz1 (by omega))
  have HA2 := Lib.hid hal
  clear hal hz1
  go_wp2_with fail
  refine HS2.out.mono ?_
  rintro e w5 ⟨rfl, hB5⟩
  have HB5 := Lib.hid (HB4.out.trans ((HA2.out.trans (hB5.mono HA2.out.size)).mono HB4.out.size))
  clear hB5
  go_wp2_with fail
  go_ret
  exact ⟨rfl, HB5.out⟩

end Go.Proofs.Ytikblaebfpdngaa

/- Whether programs and histories are too long for a statement about histories. -/
set_option linter.unusedVariables false
set_option linter.unusedSimpArgs false
namespace Go.Proofs.Ytikblaebfpdngaa
open Go.RowKit Tinker

def lng7 (n : Nat) (h : List (List E)) : Bool := h.any (fun x => decide (50 < x.length)) || (decide (100 < n) || decide (50 < h.length))
theorem lng7_no {n : Nat} {h : List (List E)} (e : lng7 n h = false) : n ≤ 100 ∧ h.length ≤ 50 ∧ ∀ x ∈ h, x.length ≤ 50 := by
  unfold lng7 at e
  simp only [Bool.or_eq_false_iff, decide_eq_false_iff_not] at e
  obtain ⟨e1, e2, e3⟩ := e
  refine ⟨by omega, by omega, fun x hx => ?_⟩
  rw [List.any_eq_false] at e1
  have := e1 x hx
  simp at this
  omega

set_option maxRecDepth 100000 in
set_option maxHeartbeats 1000000 in
theorem long7_any (a g : Option Addr) (n ca cg : Nat) (h : List (List E)) (w : World) (hh : RowsEAt w g h) (hm : h.length ≤ maxLen) :
    Calls Try.prog 10 #[.slice a n ca, .slice g h.length cg] w fun e w' => e = .returned (.bool (lng7 n h)) ∧ w = w' := by
  have hm2 : h.length ≤ 9223372036854775807 := hm
  clear hm
  go_enter Try.func10, Try.ntmps10
  go_wp2_with fail
  go_loopw [5] (fun s wr => ∃ k : Nat, k ≤ h.length ∧ s = .int .i64 k ∧ (h.take k).any (fun x => decide (50 < x.length)) = false ∧ wr = w) (fun s _ => h.length - (intOf s).toNat)
  case atStart => exact ⟨0, Nat.zero_le _, rfl, by simp, rfl⟩
  case round =>
    obtain ⟨k, hk, rfl, hall, rfl⟩ := hrel
    have HA := Lib.hid hall
    clear hall
    by_cases hlt : k < h.length
    · obtain ⟨b, off, x, ax, cx, rfl, hlb, hx, c0, hxe⟩ := hh.at_ hlt
      have HX := Lib.hid hx
      clear hx hxe hh
      by_cases hv : (50 : Int) < (x.length : Int)
      · have HR := Lib.hid (show lng7 n h = true by unfold lng7; rw [show h.any (fun x => decide (50 < x.length)) = true from List.any_eq_true.2 ⟨x, mem_of_get HX.out, by simp; omega⟩]; rfl)
        go_wp2_with fail
        go_ret
        exact ⟨ret_bool HR.out.symm, rfl⟩
      · have HV := Lib.hid (show decide (50 < x.length) = false by simp; omega)
        go_wp2_with fail
        go_roundw
        case rel => exact ⟨k + 1, by omega, by go_num, by rw [List.take_add_one, HX.out, List.any_append, HA.out]; show (false || ([x].any _)) = false; simp only [List.any_cons, HV.out, List.any_nil]; rfl, by first | trivial | rfl⟩
        case measure => simp [intOf]; omega
    · have HR := Lib.hid (show lng7 n h = (decide (100 < n) || decide (50 < h.length)) by
        unfold lng7
        have := HA.out
        rw [List.take_of_length_le (by omega)] at this
        rw [this]
        rfl)
      clear hh
      by_cases h1 : (100 : Int) < (n : Int)
      · have h2 : (decide (100 < n) || decide (50 < h.length)) = true := by rw [decide_eq_true (by omega)]; rfl
        rw [h2] at HR
        clear h2
        go_wp2_with fail
        go_ret
        exact ⟨ret_bool HR.out.symm, rfl⟩
      · by_cases h3 : (50 : Int) < (h.length : Int)
        · have h2 : (decide (100 < n) || decide (50 < h.length)) = true := by rw [Bool.or_eq_true]; right; exact decide_eq_true (by omega)
          rw [h2] at HR
          clear h2
          go_wp2_with fail
          go_ret
          exact ⟨ret_bool HR.out.symm, rfl⟩
        · have h2 : (decide (100 < n) || decide (50 < h.length)) = false := by rw [decide_eq_false (by omega), decide_eq_false (by omega)]; rfl
          rw [h2] at HR
          clear h2
          go_wp2_with fail
          go_ret
          exact ⟨ret_bool HR.out.symm, rfl⟩

end Go.Proofs.Ytikblaebfpdngaa
