/- Same of ranges on equal lists; known, Long, large of the laws about spans. -/
import Derived.Test.YtmpgaccpdglhkaaSpK
import Derived.Test.YtmpgaccpdglhkaaSpN
import Derived.Deep.QuietTactic
set_option linter.unusedVariables false
set_option linter.unusedSimpArgs false
namespace Go.Proofs.Ytmpgaccpdglhkaa
open Go.RowKit Tinker

set_option maxRecDepth 100000 in
set_option maxHeartbeats 400000 in
theorem sameG_self (n : Nat) (a b : Option Addr) (ca cb : Nat) (ps : List Rg) (w : World) (hn : ps.length = n) (ha : RangesAt w a ps) (hb : RangesAt w b ps) (hm : n ≤ 1000) :
    Calls Try.prog 15 #[.slice a n ca, .slice b n cb] w fun e w' => e = .returned (.bool true) ∧ Below w.heap.size w w' := by
  have HN := Lib.hid hn
  have hnn : ((n : Int) != (n : Int)) = false := by simp
  clear hn
  go_enter Try.func15, Try.ntmps15
  go_wp2_with fail
  go_loopw [5] (fun s5 wr => ∃ k : Nat, k ≤ n ∧ s5 = .int .i64 k ∧ Below w.heap.size w wr) (fun s5 _ => n - (intOf s5).toNat)
  case atStart => exact ⟨0, Nat.zero_le _, rfl, Below.refl _ _⟩
  case round =>
    obtain ⟨k, hk, rfl, hB⟩ := hrel
    by_cases hlt : k < n
    · obtain ⟨b1, o1, l, rfl, hl1, hx, c0, c1⟩ := (ha.below hB (Nat.le_refl _)).at_ (show k < ps.length by rw [HN.out]; exact hlt)
      obtain ⟨b2, o2, m, rfl, hl2, hy, d0, d1⟩ := (hb.below hB (Nat.le_refl _)).at_ (show k < ps.length by rw [HN.out]; exact hlt)
      rw [hx] at hy
      injection hy with hy
      subst hy
      have HB := Lib.hid hB
      clear hx ha hb hB
      go_wp2_with fail
      go_quiet (fail)
      go_wp2_with fail
      go_roundw
      case rel => exact ⟨k + 1, by omega, by go_num, HB.out.trans (Below.mono ⟨rfl, rfl, rfl, Nat.le_refl _, fun _ _ => rfl⟩ HB.out.size)⟩
      case measure => simp [intOf]; omega
    · go_wp2
      go_ret
      exact ⟨rfl, hB⟩

theorem ranges_blk {W : World} {g : Nat} {b : List Rg} {t : TypeId} (h : W.heap[g]? = some (.cells (gc b).toArray t (0, 0))) : RangesAt W (some ⟨g, 0, none⟩) b := by
  refine .inr ⟨g, 0, rfl, hp_lt h, fun j x hj => ?_⟩
  rw [Nat.zero_add]
  obtain ⟨h0, h1⟩ := gc_get hj
  exact ⟨hp_cell h (by simpa using h0), hp_cell h (by simpa using h1)⟩
theorem lines_blk {W : World} {g : Nat} {ps : List L} {t : TypeId} (h : W.heap[g]? = some (.cells (lc ps).toArray t (0, 0))) : LinesAt W (some ⟨g, 0, none⟩) ps := by
  refine .inr ⟨g, 0, rfl, hp_lt h, fun j x hj => ?_⟩
  rw [Nat.zero_add]
  obtain ⟨h0, h1, h2, h3⟩ := lc_get hj
  exact ⟨hp_cell h (by simpa using h0), hp_cell h (by simpa using h1), hp_cell h (by simpa using h2), hp_cell h (by simpa using h3)⟩

theorem kAfter (W : World) (A B : Addr) (h1 : LinesAt W (some A) [⟨4, 0, 1, 1⟩]) (h2 : RangesAt W (some B) [⟨0, 0⟩, ⟨0, 5⟩, ⟨0, 0⟩, ⟨0, 0⟩]) :
    Calls Try.prog 11 #[.slice (some A) 1 1, .slice (some B) 4 4] W fun e w' => ∃ a c, e = .returned (.tuple #[.slice a 4 c, .int .i64 0]) ∧ RangesAt w' a [⟨-5, 5⟩, ⟨0, 5⟩, ⟨0, 0⟩, ⟨0, 0⟩] ∧ Below W.heap.size W w' := by
  have h := sAfter_any (some A) (some B) 1 4 [⟨4, 0, 1, 1⟩] [⟨0, 0⟩, ⟨0, 5⟩, ⟨0, 0⟩, ⟨0, 0⟩] W h1 h2
  refine h.mono ?_
  rintro e w' ⟨a, c, rfl, ho, hB⟩
  exact ⟨a, c, rfl, (ranges_of_own ho).1, hB⟩
theorem kHalves (W : World) (B : Addr) (h2 : RangesAt W (some B) [⟨0, 4⟩, ⟨0, 0⟩, ⟨0, 0⟩, ⟨0, 0⟩]) :
    Calls Try.prog 38 #[.slice (some B) 4 4, .int .i64 0] W fun e w' => ∃ a b c d, e = .returned (.tuple #[.slice a 4 c, .slice b 4 d, .int .i64 0]) ∧ RangesAt w' a [⟨0, 2⟩, ⟨0, 0⟩, ⟨0, 0⟩, ⟨0, 0⟩] ∧ RangesAt w' b [⟨3, 4⟩, ⟨0, 0⟩, ⟨0, 0⟩, ⟨0, 0⟩] ∧ Below W.heap.size W w' := by
  have h := sHalves_any (some B) 4 [⟨0, 4⟩, ⟨0, 0⟩, ⟨0, 0⟩, ⟨0, 0⟩] 0 W h2
  refine h.mono ?_
  rintro e w' ⟨a, b, c, d, rfl, ho, ho2, hB⟩
  exact ⟨a, b, c, d, rfl, ho, ho2, hB⟩

set_option maxRecDepth 100000 in
set_option maxHeartbeats 4000000 in
theorem known6_true (w : World) : Calls Try.prog 10 #[] w fun e w' => e = .returned (.bool true) ∧ Below w.heap.size w w' := by
  go_enter Try.func10, Try.ntmps10
  go_wp2_with fail
  refine (kAfter _ _ _ (lines_blk (hp_new (by simp))) (ranges_blk (hp_alloc (hp_new rfl)))).mono ?_
  rintro e w1 ⟨a1, c1, rfl, r1, hB⟩
  have HB1 := Lib.hid ((((Below.refl w.heap.size w).alloc (Nat.le_refl _) _).alloc (by simp) _).trans (hB.mono (by simp; omega)))
  have R1 := Lib.hid r1
  clear hB r1
  go_wp2_with fail
  refine (kHalves _ _ (ranges_blk (hp_new rfl))).mono ?_
  rintro e w2 ⟨a2, b2, c2, d2, rfl, r2, r3, hB⟩
  have hal : Below w1.heap.size w1 w2 := ((Below.refl _ _).alloc (Nat.le_refl _) _).trans (hB.mono (by simp))
  have R1 := Lib.hid (R1.out.below hal (Nat.le_refl _))
  have HB2 := Lib.hid (HB1.out.trans (hal.mono HB1.out.size))
  have R2 := Lib.hid r2
  have R3 := Lib.hid r3
  clear hB r2 r3 hal HB1
  go_wp2_with fail
  refine (sameG_self 4 _ _ _ _ _ _ rfl (R1.out.below ((Below.refl _ _).alloc (Nat.le_refl _) _) (Nat.le_refl _)) (ranges_blk (hp_new rfl)) (by omega)).mono ?_
  rintro e w3 ⟨rfl, hB⟩
  have hal : Below w2.heap.size w2 w3 := ((Below.refl _ _).alloc (Nat.le_refl _) _).trans (hB.mono (by simp))
  have R2 := Lib.hid (R2.out.below hal (Nat.le_refl _))
  have R3 := Lib.hid (R3.out.below hal (Nat.le_refl _))
  have HB3 := Lib.hid (HB2.out.trans (hal.mono HB2.out.size))
  clear hB hal HB2
  go_wp2_with fail
  refine (sameG_self 4 _ _ _ _ _ _ rfl (R2.out.below ((Below.refl _ _).alloc (Nat.le_refl _) _) (Nat.le_refl _)) (ranges_blk (hp_new rfl)) (by omega)).mono ?_
  rintro e w4 ⟨rfl, hB⟩
  have hal : Below w3.heap.size w3 w4 := ((Below.refl _ _).alloc (Nat.le_refl _) _).trans (hB.mono (by simp))
  have R3 := Lib.hid (R3.out.below hal (Nat.le_refl _))
  have HB4 := Lib.hid (HB3.out.trans (hal.mono HB3.out.size))
  clear hB hal HB3
  go_wp2_with fail
  refine (sameG_self 4 _ _ _ _ _ _ rfl (R3.out.below ((Below.refl _ _).alloc (Nat.le_refl _) _) (Nat.le_refl _)) (ranges_blk (hp_new rfl)) (by omega)).mono ?_
  rintro e w5 ⟨rfl, hB⟩
  have hal : Below w4.heap.size w4 w5 := ((Below.refl _ _).alloc (Nat.le_refl _) _).trans (hB.mono (by simp))
  have HB5 := Lib.hid (HB4.out.trans (hal.mono HB4.out.size))
  clear hB hal HB4
  go_wp2_with fail
  go_ret
  exact ⟨rfl, HB5.out⟩

set_option maxHeartbeats 400000 in
theorem long6_any (a : Option Addr) (n cap : Nat) (w : World) : Calls Try.prog 9 #[.slice a n cap] w fun e w' => e = .returned (.bool (decide ((100 : Int) < (n : Int)))) ∧ w = w' := by
  go_enter Try.func9, Try.ntmps9
  go_wp2
  go_ret
  exact ⟨rfl, rfl⟩
end Go.Proofs.Ytmpgaccpdglhkaa
