/- Several texts in one. -/
import Derived.Test.YtmigkbimdjiigaaSuO
import Derived.Test.YtmigkbimdjiigaaSuP
import Derived.Test.YtmigkbimdjiigaaSuG
/- Suites of the code: orders, Wait; the chapter's example: contracts. -/
set_option linter.unusedVariables false
set_option linter.unusedSimpArgs false
namespace Go.Proofs.Ytmigkbimdjiigaa
open Go.RowKit Tinker

set_option maxRecDepth 100000 in
set_option maxHeartbeats 1000000 in
theorem sVord_any (a b : Option Addr) (ca cb : Nat) (t : List (List Int)) (o : List Int) (w : World) (ht : RowsAt w a t) (ho : IntsAt w b o) (hl : t.length ≤ 50) (hm : ∀ z ∈ t, z.length ≤ 1000) (hol : o.length ≤ 50) :
    Calls Try.prog 90 #[.slice a t.length ca, .slice b o.length cb] w fun e w' => e = .returned (.int .i64 (vso t o)) ∧ Below w.heap.size w w' := by
  have HV := Lib.hid (sValidate_any a ca t w ht (by omega) hm)
  have HO := Lib.hid (kIsOrder_any b cb t.length o w ho hol hl)
  unfold vso
  clear ht hm ho
  by_cases hv : vsu t = 0
  · rw [if_pos hv]
    rw [hv] at HV
    clear hv
    cases hs : ordB o t.length
    · rw [hs] at HO
      rw [if_neg (by decide)]
      clear hs
      go_enter Try.func90, Try.ntmps90
      go_wp2_with fail
      refine HV.out.mono ?_
      rintro e w' ⟨rfl, rfl⟩
      go_wp2_with fail
      refine HO.out.mono ?_
      rintro e w' ⟨rfl, hB⟩
      go_wp2_with fail
      go_ret
      exact ⟨rfl, hB⟩
    · rw [hs] at HO
      rw [if_pos rfl]
      clear hs
      go_enter Try.func90, Try.ntmps90
      go_wp2_with fail
      refine HV.out.mono ?_
      rintro e w' ⟨rfl, rfl⟩
      go_wp2_with fail
      refine HO.out.mono ?_
      rintro e w' ⟨rfl, hB⟩
      go_wp2_with fail
      go_ret
      exact ⟨rfl, hB⟩
  · rw [if_neg hv]
    have hne : (vsu t != 0) = true := by simpa using hv
    clear hv
    go_enter Try.func90, Try.ntmps90
    go_wp2_with fail
    refine HV.out.mono ?_
    rintro e w' ⟨rfl, rfl⟩
    go_wp2_with fail
    go_ret
    exact ⟨rfl, Below.refl _ _⟩

/-- A number and a code. -/
def GivesNE (n c : Int) (w : World) (e : Ending) (w' : World) : Prop := e = .returned (.tuple #[.int .i64 n, .int .i64 c]) ∧ Below w.heap.size w w'
/-- What Wait answers. -/
def waitN (t : List (List Int)) (o : List Int) : Int := if vso t o = 0 then (wtS (tblM t) o o.length : Int) else 0
set_option maxRecDepth 100000 in
set_option maxHeartbeats 1000000 in
theorem sWait_any (a b : Option Addr) (ca cb : Nat) (t : List (List Int)) (o : List Int) (w : World) (ht : RowsAt w a t) (ho : IntsAt w b o) (hl : t.length ≤ 50) (hm : ∀ z ∈ t, z.length ≤ 1000) (hol : o.length ≤ 50) :
    Calls Try.prog 41 #[.slice a t.length ca, .slice b o.length cb] w (GivesNE (waitN t o) (vso t o) w) := by
  have HV := Lib.hid (sVord_any a b ca cb t o w ht ho hl hm hol)
  unfold waitN
  by_cases hv : vso t o = 0
  · rw [if_pos hv]
    rw [hv] at HV ⊢
    obtain ⟨hv1, hv2⟩ := vso_ok hv
    have hl8 := (vsu_ok hv1).1
    have hb := (ord_btw hv2).2
    have HT0 := Lib.hid ht
    have HO := Lib.hid ho
    have HT := Lib.hid (fun w ht => tableOf_any a ca t w ht hv1)
    have hsl : (tblM t).length ≤ 8 := by rw [tblM_len]; exact hl8
    have hsv := tblM_lt hv1
    generalize tblM t = s at *
    have HW := Lib.hid (fun a' c' w hs ho => tWait_any a' b c' cb s o w hs hsl hsv ho (fun x hx => by have := hb x hx; omega) hol)
    generalize (wtS s o o.length : Int) = R at HW ⊢
    clear ht hm hv hv1 hv2 hl8 hb ho hsv
    go_enter Try.func41, Try.ntmps41
    go_wp2_with fail
    refine HV.out.mono ?_
    rintro e w0 ⟨rfl, hB0⟩
    go_wp2_with fail
    refine (HT.out _ (HT0.out.below hB0 (Nat.le_refl _))).mono ?_
    rintro e w1 ⟨a1, c1, rfl, hs, hB⟩
    have hB1 := hB0.trans (hB.mono hB0.size)
    have HS := Lib.hid hs
    clear hs hB hB0
    go_wp2_with fail
    refine (HW.out _ _ _ HS.out (HO.out.below hB1 (Nat.le_refl _))).mono ?_
    rintro e w2 ⟨rfl, rfl⟩
    go_wp2_with fail
    go_ret2
    exact ⟨rfl, hB1⟩
  · rw [if_neg hv]
    have hne : (vso t o != 0) = true := by simpa using hv
    clear hv ht hm ho
    go_enter Try.func41, Try.ntmps41
    go_wp2_with fail
    refine HV.out.mono ?_
    rintro e w' ⟨rfl, hB⟩
    go_wp2_with fail
    go_ret2
    exact ⟨rfl, hB⟩
end Go.Proofs.Ytmigkbimdjiigaa

/- The chapter's example: sane of tinkerlaw08. -/
set_option linter.unusedVariables false
set_option linter.unusedSimpArgs false
namespace Tinker
def T8 : List (List Int) := [[1, 1, 0], [0, 1, 1], [0, 0, 1]]
end Tinker
namespace Go.Proofs.Ytmigkbimdjiigaa
open Go.RowKit Tinker
theorem t8_vsu : vsu T8 = 0 := by decide +kernel
theorem t8_cov : coverL T8 = [0, 1] := by decide +kernel
theorem t8_exc : exclL T8 = [0, 2] := by decide +kernel
theorem t8_ess : essL (tblM T8) = [0] := by decide +kernel
theorem t8_ned : nedL (tblM T8) = [2] := by decide +kernel
theorem t8_vso : vso T8 [0, 1, 2] = 0 := by decide +kernel
theorem t8_wait : waitN T8 [0, 1, 2] = 4 := by decide +kernel

theorem ints_heap8 {W : World} {b : Nat} {t : TypeId} {zs : List Int} (h : W.heap[b]? = some (.cells (zs.map (Value.int .i64)).toArray t (0, 0))) : IntsAt W (some ⟨b, 0, none⟩) zs :=
  .inr ⟨b, 0, rfl, hp_lt h, fun j n hj => by rw [Nat.zero_add]; exact hp_cell h (by simp [hj])⟩
theorem ints_new8 (w : World) (t : TypeId) (zs : List Int) : IntsAt (w.alloc (.cells (zs.map (Value.int .i64)).toArray t)) (some ⟨w.heap.size, 0, none⟩) zs := ints_heap8 (hp_new rfl)
/-- The world behind the example's lists. -/
theorem world8 (w : World) : Below w.heap.size w ((((w.alloc (.cells #[.int .i64 1, .int .i64 1, .int .i64 0] 3)).alloc (.cells #[.int .i64 0, .int .i64 1, .int .i64 1] 3)).alloc (.cells #[.int .i64 0, .int .i64 0, .int .i64 1] 3)).alloc (.cells #[.slice (some ⟨w.heap.size, 0, none⟩) 3 3, .slice (some ⟨w.heap.size + 1, 0, none⟩) 3 3, .slice (some ⟨w.heap.size + 1 + 1, 0, none⟩) 3 3] 23)) ∧ RowsAt ((((w.alloc (.cells #[.int .i64 1, .int .i64 1, .int .i64 0] 3)).alloc (.cells #[.int .i64 0, .int .i64 1, .int .i64 1] 3)).alloc (.cells #[.int .i64 0, .int .i64 0, .int .i64 1] 3)).alloc (.cells #[.slice (some ⟨w.heap.size, 0, none⟩) 3 3, .slice (some ⟨w.heap.size + 1, 0, none⟩) 3 3, .slice (some ⟨w.heap.size + 1 + 1, 0, none⟩) 3 3] 23)) (some ⟨w.heap.size + 1 + 1 + 1, 0, none⟩) T8 := by
  obtain ⟨v0, hv0⟩ : ∃ v0, v0 = w := ⟨_, rfl⟩
  rw [← hv0]
  obtain ⟨N0, hN⟩ : ∃ N0, N0 = v0.heap.size := ⟨_, rfl⟩
  rw [← hN]
  have s0 : v0.heap.size = N0 := hN.symm
  clear hv0 hN
  have h0 := heap_new v0 (.cells #[.int .i64 1, .int .i64 1, .int .i64 0] 3)
  have b0 := (Below.refl v0.heap.size v0).alloc (Nat.le_refl _) (.cells #[.int .i64 1, .int .i64 1, .int .i64 0] 3)
  have s1 : (v0.alloc (.cells #[.int .i64 1, .int .i64 1, .int .i64 0] 3)).heap.size = N0 + 1 := by simp [s0]
  rw [s0] at h0
  generalize v0.alloc (.cells #[.int .i64 1, .int .i64 1, .int .i64 0] 3) = v1 at *
  have h1 := heap_new v1 (.cells #[.int .i64 0, .int .i64 1, .int .i64 1] 3)
  have b1 := (Below.refl v1.heap.size v1).alloc (Nat.le_refl _) (.cells #[.int .i64 0, .int .i64 1, .int .i64 1] 3)
  have s2 : (v1.alloc (.cells #[.int .i64 0, .int .i64 1, .int .i64 1] 3)).heap.size = N0 + 1 + 1 := by simp [s1]
  rw [s1] at h1
  generalize v1.alloc (.cells #[.int .i64 0, .int .i64 1, .int .i64 1] 3) = v2 at *
  have h2 := heap_new v2 (.cells #[.int .i64 0, .int .i64 0, .int .i64 1] 3)
  have b2 := (Below.refl v2.heap.size v2).alloc (Nat.le_refl _) (.cells #[.int .i64 0, .int .i64 0, .int .i64 1] 3)
  have s3 : (v2.alloc (.cells #[.int .i64 0, .int .i64 0, .int .i64 1] 3)).heap.size = N0 + 1 + 1 + 1 := by simp [s2]
  rw [s2] at h2
  generalize v2.alloc (.cells #[.int .i64 0, .int .i64 0, .int .i64 1] 3) = v3 at *
  have h3 := heap_new v3 (.cells #[.slice (some ⟨N0, 0, none⟩) 3 3, .slice (some ⟨N0 + 1, 0, none⟩) 3 3, .slice (some ⟨N0 + 1 + 1, 0, none⟩) 3 3] 23)
  have b3 := (Below.refl v3.heap.size v3).alloc (Nat.le_refl _) (.cells #[.slice (some ⟨N0, 0, none⟩) 3 3, .slice (some ⟨N0 + 1, 0, none⟩) 3 3, .slice (some ⟨N0 + 1 + 1, 0, none⟩) 3 3] 23)
  have s4 : (v3.alloc (.cells #[.slice (some ⟨N0, 0, none⟩) 3 3, .slice (some ⟨N0 + 1, 0, none⟩) 3 3, .slice (some ⟨N0 + 1 + 1, 0, none⟩) 3 3] 23)).heap.size = N0 + 1 + 1 + 1 + 1 := by simp [s3]
  rw [s3] at h3
  generalize v3.alloc (.cells #[.slice (some ⟨N0, 0, none⟩) 3 3, .slice (some ⟨N0 + 1, 0, none⟩) 3 3, .slice (some ⟨N0 + 1 + 1, 0, none⟩) 3 3] 23) = v4 at *
  have c3 := b3
  have c2 := b2.trans (c3.mono b2.size)
  have c1 := b1.trans (c2.mono b1.size)
  have c0 := b0.trans (c1.mono b0.size)
  refine ⟨by rw [← s0]; exact c0, .inr ⟨N0 + 1 + 1 + 1, 0, rfl, hp_lt h3, fun j zs hj => ?_⟩⟩
  match j, hj with
  | 0, hj => injection hj with hj; subst hj; exact ⟨_, _, hp_cell h3 (j := 0) rfl, ints_heap8 (hp_below h0 c1 (hp_lt h0))⟩
  | 1, hj => injection hj with hj; subst hj; exact ⟨_, _, hp_cell h3 (j := 1) rfl, ints_heap8 (hp_below h1 c2 (hp_lt h1))⟩
  | 2, hj => injection hj with hj; subst hj; exact ⟨_, _, hp_cell h3 (j := 2) rfl, ints_heap8 (hp_below h2 c3 (hp_lt h2))⟩
  | j + 3, hj => simp [T8] at hj

set_option maxRecDepth 100000 in
set_option maxHeartbeats 4000000 in
theorem sane8_true (w : World) : Calls Try.prog 18 #[] w fun e w' => e = .returned (.bool true) ∧ Below w.heap.size w w' := by
  obtain ⟨hB, hR⟩ := world8 w
  obtain ⟨W8, hW⟩ : ∃ W8, W8 = ((((w.alloc (.cells #[.int .i64 1, .int .i64 1, .int .i64 0] 3)).alloc (.cells #[.int .i64 0, .int .i64 1, .int .i64 1] 3)).alloc (.cells #[.int .i64 0, .int .i64 0, .int .i64 1] 3)).alloc (.cells #[.slice (some ⟨w.heap.size, 0, none⟩) 3 3, .slice (some ⟨w.heap.size + 1, 0, none⟩) 3 3, .slice (some ⟨w.heap.size + 1 + 1, 0, none⟩) 3 3] 23)) := ⟨_, rfl⟩
  rw [← hW] at hB hR
  have hm : ∀ x ∈ T8, x.length ≤ 1000 := by decide
  have HCCover := Lib.hid (fun W (h1 : RowsAt W (some ⟨w.heap.size + 1 + 1 + 1, 0, none⟩) T8) => show Calls Try.prog 28 #[.slice (some ⟨w.heap.size + 1 + 1 + 1, 0, none⟩) 3 3] W (GivesIntsE [0, 1] 0 W) from by
    have h9 := sCover_any (some ⟨w.heap.size + 1 + 1 + 1, 0, none⟩) 3 T8 W h1 (by decide) hm
    rw [t8_vsu, t8_cov] at h9
    exact h9)
  have HCExcl := Lib.hid (fun W (h1 : RowsAt W (some ⟨w.heap.size + 1 + 1 + 1, 0, none⟩) T8) => show Calls Try.prog 32 #[.slice (some ⟨w.heap.size + 1 + 1 + 1, 0, none⟩) 3 3] W (GivesIntsE [0, 2] 0 W) from by
    have h9 := sExcl_any (some ⟨w.heap.size + 1 + 1 + 1, 0, none⟩) 3 T8 W h1 (by decide) hm
    rw [t8_vsu, t8_exc] at h9
    exact h9)
  have HCEss := Lib.hid (fun W (h1 : RowsAt W (some ⟨w.heap.size + 1 + 1 + 1, 0, none⟩) T8) => show Calls Try.prog 29 #[.slice (some ⟨w.heap.size + 1 + 1 + 1, 0, none⟩) 3 3] W (GivesIntsE [0] 0 W) from by
    have h9 := sEssential_any (some ⟨w.heap.size + 1 + 1 + 1, 0, none⟩) 3 T8 W h1 (by decide) hm
    rw [t8_vsu, if_pos rfl, t8_ess] at h9
    exact h9)
  have HCNed := Lib.hid (fun W (h1 : RowsAt W (some ⟨w.heap.size + 1 + 1 + 1, 0, none⟩) T8) => show Calls Try.prog 37 #[.slice (some ⟨w.heap.size + 1 + 1 + 1, 0, none⟩) 3 3] W (GivesIntsE [2] 0 W) from by
    have h9 := sNeedless_any (some ⟨w.heap.size + 1 + 1 + 1, 0, none⟩) 3 T8 W h1 (by decide) hm
    rw [t8_vsu, if_pos rfl, t8_ned] at h9
    exact h9)
  have HCW := Lib.hid (fun b W (h1 : RowsAt W (some ⟨w.heap.size + 1 + 1 + 1, 0, none⟩) T8) (h2 : IntsAt W b [0, 1, 2]) => show Calls Try.prog 41 #[.slice (some ⟨w.heap.size + 1 + 1 + 1, 0, none⟩) 3 3, .slice b 3 3] W (GivesNE 4 0 W) from by
    have h9 := sWait_any (some ⟨w.heap.size + 1 + 1 + 1, 0, none⟩) b 3 3 T8 [0, 1, 2] W h1 h2 (by decide) hm (by decide)
    rw [t8_vso, t8_wait] at h9
    exact h9)
  have HB := Lib.hid hB
  have HR := Lib.hid hR
  have HW := Lib.hid hW
  clear hB hR hW hm
  go_enter Try.func18, Try.ntmps18
  go_upto_region 2 with fail
  rw [← HW.out]
  go_wp2_with fail
  refine (HCCover.out _ HR.out).mono ?_
  rintro e w1 ⟨a1, c1, rfl, ho, hB⟩
  have HB1 := Lib.hid (HB.out.trans (hB.mono HB.out.size))
  have HR1 := Lib.hid (HR.out.below hB (Nat.le_refl _))
  have HI1 := Lib.hid (ints_of_own ho).1
  clear hB ho
  simp only [List.length_cons, List.length_nil, Nat.zero_add]
  go_wp2_with fail
  refine (HCExcl.out _ HR1.out).mono ?_
  rintro e w2 ⟨a2, c2, rfl, ho, hB⟩
  have HB2 := Lib.hid (HB1.out.trans (hB.mono HB1.out.size))
  have HR2 := Lib.hid (HR1.out.below hB (Nat.le_refl _))
  have HI1 := Lib.hid (HI1.out.below hB (Nat.le_refl _))
  have HI2 := Lib.hid (ints_of_own ho).1
  clear hB ho
  simp only [List.length_cons, List.length_nil, Nat.zero_add]
  go_wp2_with fail
  refine (HCEss.out _ HR2.out).mono ?_
  rintro e w3 ⟨a3, c3, rfl, ho, hB⟩
  have HB3 := Lib.hid (HB2.out.trans (hB.mono HB2.out.size))
  have HR3 := Lib.hid (HR2.out.below hB (Nat.le_refl _))
  have HI1 := Lib.hid (HI1.out.below hB (Nat.le_refl _))
  have HI2 := Lib.hid (HI2.out.below hB (Nat.le_refl _))
  have HI3 := Lib.hid (ints_of_own ho).1
  clear hB ho
  simp only [List.length_cons, List.length_nil, Nat.zero_add]
  go_wp2_with fail
  refine (HCNed.out _ HR3.out).mono ?_
  rintro e w4 ⟨a4, c4, rfl, ho, hB⟩
  have HB4 := Lib.hid (HB3.out.trans (hB.mono HB3.out.size))
  have HR4 := Lib.hid (HR3.out.below hB (Nat.le_refl _))
  have HI1 := Lib.hid (HI1.out.below hB (Nat.le_refl _))
  have HI2 := Lib.hid (HI2.out.below hB (Nat.le_refl _))
  have HI3 := Lib.hid (HI3.out.below hB (Nat.le_refl _))
  have HI4 := Lib.hid (ints_of_own ho).1
  clear hB ho
  simp only [List.length_cons, List.length_nil, Nat.zero_add]
  have hal := (Below.refl w4.heap.size w4).alloc (Nat.le_refl _) (.cells #[.int .i64 0, .int .i64 1, .int .i64 2] 3)
  have HA4 := Lib.hid hal
  have HZ4 := Lib.hid (ints_new8 w4 3 [0, 1, 2])
  have HR4 := Lib.hid (HR4.out.below hal (Nat.le_refl _))
  have HI1 := Lib.hid (HI1.out.below hal (Nat.le_refl _))
  have HI2 := Lib.hid (HI2.out.below hal (Nat.le_refl _))
  have HI3 := Lib.hid (HI3.out.below hal (Nat.le_refl _))
  have HI4 := Lib.hid (HI4.out.below hal (Nat.le_refl _))
  have HB4 := Lib.hid (HB4.out.trans (hal.mono HB4.out.size))
  clear hal HA4
  go_wp2_with fail
  refine (HCW.out _ _ HR4.out HZ4.out).mono ?_
  rintro e w5 ⟨rfl, hB⟩
  have HB5 := Lib.hid (HB4.out.trans (hB.mono HB4.out.size))
  have HI1 := Lib.hid (HI1.out.below hB (Nat.le_refl _))
  have HI2 := Lib.hid (HI2.out.below hB (Nat.le_refl _))
  have HI3 := Lib.hid (HI3.out.below hB (Nat.le_refl _))
  have HI4 := Lib.hid (HI4.out.below hB (Nat.le_refl _))
  clear hB HZ4 HR4
  have hal := (Below.refl w5.heap.size w5).alloc (Nat.le_refl _) (.cells #[.int .i64 0, .int .i64 1] 3)
  have HS := Lib.hid (sameI8_self 2 a1 (some ⟨w5.heap.size, 0, none⟩) c1 2 [0, 1] _ rfl (HI1.out.below hal (Nat.le_refl _)) (ints_new8 w5 3 [0, 1]) (by omega))
  have HA := Lib.hid hal
  clear hal
  go_wp2_with fail
  refine HS.out.mono ?_
  rintro e w6 ⟨rfl, hB⟩
  have HB6 := Lib.hid (HB5.out.trans ((HA.out.trans (hB.mono HA.out.size)).mono HB5.out.size))
  have HI2 := Lib.hid (HI2.out.below (HA.out.trans (hB.mono HA.out.size)) (Nat.le_refl _))
  have HI3 := Lib.hid (HI3.out.below (HA.out.trans (hB.mono HA.out.size)) (Nat.le_refl _))
  have HI4 := Lib.hid (HI4.out.below (HA.out.trans (hB.mono HA.out.size)) (Nat.le_refl _))
  clear hB HA HS
  have hal := (Below.refl w6.heap.size w6).alloc (Nat.le_refl _) (.cells #[.int .i64 0, .int .i64 2] 3)
  have HS := Lib.hid (sameI8_self 2 a2 (some ⟨w6.heap.size, 0, none⟩) c2 2 [0, 2] _ rfl (HI2.out.below hal (Nat.le_refl _)) (ints_new8 w6 3 [0, 2]) (by omega))
  have HA := Lib.hid hal
  clear hal
  go_wp2_with fail
  refine HS.out.mono ?_
  rintro e w7 ⟨rfl, hB⟩
  have HB7 := Lib.hid (HB6.out.trans ((HA.out.trans (hB.mono HA.out.size)).mono HB6.out.size))
  have HI3 := Lib.hid (HI3.out.below (HA.out.trans (hB.mono HA.out.size)) (Nat.le_refl _))
  have HI4 := Lib.hid (HI4.out.below (HA.out.trans (hB.mono HA.out.size)) (Nat.le_refl _))
  clear hB HA HS
  have hal := (Below.refl w7.heap.size w7).alloc (Nat.le_refl _) (.cells #[.int .i64 0] 3)
  have HS := Lib.hid (sameI8_self 1 a3 (some ⟨w7.heap.size, 0, none⟩) c3 1 [0] _ rfl (HI3.out.below hal (Nat.le_refl _)) (ints_new8 w7 3 [0]) (by omega))
  have HA := Lib.hid hal
  clear hal
  go_wp2_with fail
  refine HS.out.mono ?_
  rintro e w8 ⟨rfl, hB⟩
  have HB8 := Lib.hid (HB7.out.trans ((HA.out.trans (hB.mono HA.out.size)).mono HB7.out.size))
  have HI4 := Lib.hid (HI4.out.below (HA.out.trans (hB.mono HA.out.size)) (Nat.le_refl _))
  clear hB HA HS
  have hal := (Below.refl w8.heap.size w8).alloc (Nat.le_refl _) (.cells #[.int .i64 2] 3)
  have HS := Lib.hid (sameI8_self 1 a4 (some ⟨w8.heap.size, 0, none⟩) c4 1 [2] _ rfl (HI4.out.below hal (Nat.le_refl _)) (ints_new8 w8 3 [2]) (by omega))
  have HA := Lib.hid hal
  clear hal
  go_wp2_with fail
  refine HS.out.mono ?_
  rintro e w9 ⟨rfl, hB⟩
  have HB9 := Lib.hid (HB8.out.trans ((HA.out.trans (hB.mono HA.out.size)).mono HB8.out.size))
  clear hB HA HS
  go_wp2_with fail
  go_ret
  exact ⟨rfl, HB9.out⟩

end Go.Proofs.Ytmigkbimdjiigaa
