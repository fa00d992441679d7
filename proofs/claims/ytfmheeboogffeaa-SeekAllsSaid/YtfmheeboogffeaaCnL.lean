/- slices.Index and slices.Contains on lines. -/
import Derived.Test.YtfmheeboogffeaaCpL
set_option linter.unusedVariables false
set_option linter.unusedSimpArgs false
namespace Go.Proofs.Ytfmheeboogffeaa
open Go.RowKit Tinker

theorem below_drewN7 {B : Nat} {a w : World} (h : Below B a w) (n : Nat) : Below B a (w.drewN n) := h.trans ⟨rfl, rfl, rfl, Nat.le_refl _, fun _ _ => rfl⟩

set_option maxRecDepth 100000 in
set_option maxHeartbeats 2000000 in
theorem indexL_any (a : Option Addr) (c : Nat) (zs : List L) (n : L) (w : World) (hz : LinesAt w a zs) (hm : zs.length ≤ 10000) :
    Calls Try.prog 43 #[.slice a zs.length c, lv n] w fun e w' => e = .returned (.int .i64 (idxF (fun x => eqL x n) zs)) ∧ Below w.heap.size w w' := by
  have HZ := Lib.hid hz
  have HB := Lib.hid (show Below w.heap.size w (w.alloc (.cells #[.int .i64 n.op, .int .i64 n.to, .int .i64 n.a, .int .i64 n.b] 23)) from (Below.refl _ _).alloc (Nat.le_refl _) _)
  have HN := Lib.hid (show (w.alloc (.cells #[.int .i64 n.op, .int .i64 n.to, .int .i64 n.a, .int .i64 n.b] 23)).heap[w.heap.size]? = some (.cells (lV n) 23 (0, 0)) from hp_new rfl)
  clear hz
  unfold lv
  go_enter Try.func43, Try.ntmps43
  go_wp2_with fail
  go_loopw [8] (fun s8 wr => ∃ k : Nat, k ≤ zs.length ∧ s8 = .int .i64 k ∧ (zs.take k).all (fun x => !eqL x n) = true ∧ wr.heap[w.heap.size]? = some (.cells (lV n) 23 (0, 0)) ∧ Below w.heap.size w wr) (fun s8 _ => zs.length - (intOf s8).toNat)
  case atStart => exact ⟨0, Nat.zero_le _, rfl, by simp, HN.out, HB.out⟩
  case round =>
    clear HN HB
    obtain ⟨k, hk, rfl, hall, hN, hB⟩ := hrel
    have HA := Lib.hid hall
    have HN := Lib.hid hN
    have HB := Lib.hid hB
    clear hall hN hB
    by_cases hlt : k < zs.length
    · obtain ⟨b, off, x, rfl, hlb, hx, c0, c1, c2, c3⟩ := (HZ.out.below HB.out (Nat.le_refl _)).at_ hlt
      obtain ⟨d0, d1, d2, d3⟩ := boxL_cells HN.out
      have HX := Lib.hid hx
      have r1 := run_eqL n x
      clear hx
      cases hn : eqL n x
      · have HNn := Lib.hid (all_snoc (f := fun x => !eqL x n) HA.out HX.out (by rw [eqL_comm, hn]; rfl))
        rw [hn] at r1
        clear hn
        go_wp2_with fail
        go_quiet (fail)
        go_wp2_with fail
        go_roundw
        case rel => exact ⟨k + 1, by omega, by go_num, HNn.out, HN.out, below_drewN7 HB.out _⟩
        case measure => simp [intOf]; omega
      · have HI := Lib.hid (idxF_at (F := fun x => eqL x n) HA.out HX.out (by rw [eqL_comm]; exact hn))
        rw [hn] at r1
        clear hn
        go_wp2_with fail
        go_quiet (fail)
        go_wp2_with fail
        go_ret
        exact ⟨ret_int HI.out.symm, below_drewN7 HB.out _⟩
    · have HI := Lib.hid (idxF_none (F := fun x => eqL x n) (all_whole HA.out hlt))
      go_wp2_with fail
      go_ret
      exact ⟨ret_int HI.out.symm, HB.out⟩
theorem idx_hasL (zs : List L) (n : L) : decide (0 ≤ idxF (fun x => eqL x n) zs) = zs.any (fun x => eqL x n) := by
  rcases idxF_cases (fun x => eqL x n) zs with ⟨h1, h2⟩ | ⟨k, x, h1, h2, h3, _⟩
  · rw [h1]
    have : zs.any (fun x => eqL x n) = false := by
      cases h : zs.any (fun x => eqL x n)
      · rfl
      · obtain ⟨x, hx, hxn⟩ := List.any_eq_true.1 h
        have := List.filter_eq_self.1 h2 x hx
        rw [hxn] at this
        cases this
    rw [this]
    rfl
  · rw [h1]
    have : zs.any (fun x => eqL x n) = true := List.any_eq_true.2 ⟨x, mem_of_get h2, h3⟩
    rw [this]
    simp

set_option maxHeartbeats 400000 in
theorem containsL_any (a : Option Addr) (c : Nat) (zs : List L) (n : L) (w : World) (hz : LinesAt w a zs) (hm : zs.length ≤ 10000) :
    Calls Try.prog 28 #[.slice a zs.length c, lv n] w fun e w' => e = .returned (.bool (zs.any fun x => eqL x n)) ∧ Below w.heap.size w w' := by
  rw [← idx_hasL]
  have hb : Below w.heap.size w (w.alloc (.cells #[.int .i64 n.op, .int .i64 n.to, .int .i64 n.a, .int .i64 n.b] 23)) := (Below.refl _ _).alloc (Nat.le_refl _) _
  have HI := Lib.hid (indexL_any a c zs n _ (hz.below hb (Nat.le_refl _)) hm)
  have HB := Lib.hid hb
  clear hz hb
  unfold lv at HI ⊢
  generalize idxF (fun x => eqL x n) zs = r at HI ⊢
  go_enter Try.func28, Try.ntmps28
  go_wp2_with fail
  refine HI.out.mono ?_
  rintro e w1 ⟨rfl, hB1⟩
  go_wp2_with fail
  go_ret
  exact ⟨rfl, HB.out.trans (hB1.mono HB.out.size)⟩

end Go.Proofs.Ytfmheeboogffeaa
