/- Fractions. -/
import Derived.Test.YtndmjenfgggfbaaChkB
set_option linter.unusedVariables false
set_option linter.unusedSimpArgs false
namespace Go.Proofs.Ytndmjenfgggfbaa
open Go.RowKit Tinker

def fracA (n d : Nat) : Int := ((n / Nat.gcd n d : Nat) : Int)
def fracB (n d : Nat) : Int := ((d / Nat.gcd n d : Nat) : Int)

set_option maxRecDepth 100000 in
set_option maxHeartbeats 2000000 in
theorem fraction_any (n d : Nat) (w : World) (hn : n ≤ 1000) (hd : d ≤ 1000) (h0 : 1 ≤ d) :
    Calls Try.prog 109 #[.int .i64 (n : Int), .int .i64 (d : Int)] w fun e w' => e = .returned (.agg #[.int .i64 (fracA n d), .int .i64 (fracB n d)]) ∧ Below w.heap.size w w' := by
  go_enter Try.func109, Try.ntmps109
  go_wp2_with fail
  go_loopw [5, 6] (fun s5 s6 wr => ∃ x y : Nat, s5 = .int .i64 (x : Int) ∧ s6 = .int .i64 (y : Int) ∧ Nat.gcd x y = Nat.gcd n d ∧ x ≤ 1000 ∧ y ≤ 1000 ∧ wr.heap[w.heap.size]? = some (.cells #[.int .i64 0, .int .i64 0] 49 (0, 0)) ∧ Below w.heap.size w wr) (fun _ s6 _ => (intOf s6).toNat)
  case atStart => exact ⟨n, d, rfl, rfl, rfl, hn, hd, hp_new rfl, (Below.refl _ _).alloc (Nat.le_refl _) _⟩
  case round =>
    obtain ⟨x, y, rfl, rfl, hg, hx, hy, hb, hB⟩ := hrel
    have HG := Lib.hid hg
    have HBL := Lib.hid hb
    have HB := Lib.hid hB
    clear hg hb hB
    by_cases hlt : 0 < y
    · have hy0 : (0 : Int) < (y : Int) := by omega
      have hyne : ((y : Int) == 0) = false := by simp; omega
      have hyne2 : (y : Int) ≠ 0 := by omega
      go_wp2_with fail
      go_quiet (fail)
      go_wp2_with fail
      go_roundw
      case rel => exact ⟨y, x % y, rfl, by rw [Int.natCast_emod], by rw [Nat.gcd_comm, ← Nat.gcd_rec, Nat.gcd_comm]; exact HG.out, hy, by have := Nat.mod_lt x hlt; omega, HBL.out, HB.out.trans ⟨rfl, rfl, rfl, Nat.le_refl _, fun _ _ => rfl⟩⟩
      case measure =>
        have := Nat.mod_lt x hlt
        simp [intOf]
        omega
    · have : y = 0 := by omega
      subst this
      have hx1 : 1 ≤ x := by
        have := HG.out
        rw [Nat.gcd_zero_right] at this
        rw [this]
        exact Nat.gcd_pos_of_pos_right _ h0
      have hxne : ((x : Int) == 0) = false := by simp; omega
      have hxne2 : (x : Int) ≠ 0 := by omega
      have c0 := hp_cell HBL.out (j := 0) (by rfl)
      have c1 := hp_cell HBL.out (j := 1) (by rfl)
      have f0 := hp_free HBL.out 0
      have f1 := hp_free HBL.out 1
      go_wp2_with fail
      go_region
      all_goals go_wp2_with fail
      have q1 : wrap64 ((n : Int) / (x : Int)) = fracA n d := by
        have hg := HG.out
        rw [Nat.gcd_zero_right] at hg
        unfold fracA
        rw [← hg, ← Int.natCast_ediv]
        have := Nat.div_le_self n x
        generalize n / x = q at this ⊢
        unfold wrap64; omega
      have q2 : wrap64 ((d : Int) / (x : Int)) = fracB n d := by
        have hg := HG.out
        rw [Nat.gcd_zero_right] at hg
        unfold fracB
        rw [← hg, ← Int.natCast_ediv]
        have := Nat.div_le_self d x
        generalize d / x = q at this ⊢
        unfold wrap64; omega
      rw [q1, q2]
      refine bodyPost_ret (v := .agg #[.int .i64 (fracA n d), .int .i64 (fracB n d)]) ?_ rfl ⟨rfl, ((HB.out.setCell (p := ⟨w.heap.size, _, none⟩) (Nat.le_refl _) _).setCell (p := ⟨w.heap.size, _, none⟩) (Nat.le_refl _) _).drew⟩
      exact results_cell_row (p := 4) (ty := 49) rfl _ _ w.heap.size 49 _ (0, 0) _ (by rfl) (hp_put (hp_put HBL.out 0 _) 1 _) Try.underlying49 rfl (by kernel_rfl)

end Go.Proofs.Ytndmjenfgggfbaa
