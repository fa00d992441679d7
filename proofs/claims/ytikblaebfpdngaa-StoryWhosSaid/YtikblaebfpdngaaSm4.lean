/- Equal lists of edits, lines and numbers: contracts of Same, SameLines, SameInts. -/
import Derived.Test.YtikblaebfpdngaaEdM
import Derived.BigQuiet
import Derived.Deep.QuietTactic
set_option linter.unusedVariables false
set_option linter.unusedSimpArgs false
namespace Go.Proofs.Ytikblaebfpdngaa
open Go.RowKit Tinker

set_option maxRecDepth 100000 in
set_option maxHeartbeats 1000000 in
theorem sameE_self (n : Nat) (a b : Option Addr) (ca cb : Nat) (xs : List E) (w : World) (hn : xs.length = n) (ha : EditsAt w a xs) (hb : EditsAt w b xs) (hm : n ≤ 1000) :
    Calls Try.prog 35 #[.slice a n ca, .slice b n cb] w fun e w' => e = .returned (.bool true) ∧ Below w.heap.size w w' := by
  have HN := Lib.hid hn
  have hnn : ((n : Int) != (n : Int)) = false := by simp
  clear hn
  go_enter Try.func35, Try.ntmps35
  go_wp2_with fail
  go_loopw [5] (fun s5 wr => ∃ k : Nat, k ≤ n ∧ s5 = .int .i64 k ∧ Below w.heap.size w wr) (fun s5 _ => n - (intOf s5).toNat)
  case atStart => exact ⟨0, Nat.zero_le _, rfl, Below.refl _ _⟩
  case round =>
    obtain ⟨k, hk, rfl, hB⟩ := hrel
    by_cases hlt : k < n
    · obtain ⟨b1, o1, l, rfl, hl1, hx, c0, c1, c2, c3, c4⟩ := (ha.below hB (Nat.le_refl _)).at_ (show k < xs.length by rw [HN.out]; exact hlt)
      obtain ⟨b2, o2, m, rfl, hl2, hy, d0, d1, d2, d3, d4⟩ := (hb.below hB (Nat.le_refl _)).at_ (show k < xs.length by rw [HN.out]; exact hlt)
      rw [hx] at hy
      injection hy with hy
      subst hy
      have HB := Lib.hid hB
      clear hx ha hb hB
      go_wp2_with fail
      go_quiet (fail)
      go_wp2_with fail
      go_roundw
      case rel => exact ⟨k + 1, by omega, by go_num, HB.out.trans (Below.mono ⟨rfl, rfl, rfl, Nat.le_refl _, fun _ _ => rfl⟩ HB.out.size)⟩
      case measure => simp [intOf]; omega
    · go_wp2
      go_ret
      exact ⟨rfl, hB⟩

set_option maxRecDepth 100000 in
set_option maxHeartbeats 400000 in
theorem sameL4_self (n : Nat) (a b : Option Addr) (ca cb : Nat) (ps : List L) (w : World) (hn : ps.length = n) (ha : LinesAt w a ps) (hb : LinesAt w b ps) (hm : n ≤ 1000) :
    Calls Try.prog 18 #[.slice a n ca, .slice b n cb] w fun e w' => e = .returned (.bool true) ∧ Below w.heap.size w w' := by
  have HN := Lib.hid hn
  have hnn : ((n : Int) != (n : Int)) = false := by simp
  clear hn
  go_enter Try.func18, Try.ntmps18
  go_wp2_with fail
  go_loopw [5] (fun s5 wr => ∃ k : Nat, k ≤ n ∧ s5 = .int .i64 k ∧ Below w.heap.size w wr) (fun s5 _ => n - (intOf s5).toNat)
  case atStart => exact ⟨0, Nat.zero_le _, rfl, Below.refl _ _⟩
  case round =>
    obtain ⟨k, hk, rfl, hB⟩ := hrel
    by_cases hlt : k < n
    · obtain ⟨b1, o1, l, rfl, hl1, hx, c0, c1, c2, c3⟩ := (ha.below hB (Nat.le_refl _)).at_ (show k < ps.length by rw [HN.out]; exact hlt)
      obtain ⟨b2, o2, m, rfl, hl2, hy, d0, d1, d2, d3⟩ := (hb.below hB (Nat.le_refl _)).at_ (show k < ps.length by rw [HN.out]; exact hlt)
      rw [hx] at hy
      injection hy with hy
      subst hy
      have HB := Lib.hid hB
      clear hx ha hb hB
      go_wp2_with fail
      go_quiet (fail)
      go_wp2_with fail
      go_roundw
      case rel => exact ⟨k + 1, by omega, by go_num, HB.out.trans (Below.mono ⟨rfl, rfl, rfl, Nat.le_refl _, fun _ _ => rfl⟩ HB.out.size)⟩
      case measure => simp [intOf]; omega
    · go_wp2
      go_ret
      exact ⟨rfl, hB⟩

set_option maxRecDepth 100000 in
set_option maxHeartbeats 400000 in
theorem sameI4_self (n : Nat) (a b : Option Addr) (ca cb : Nat) (ps : List Int) (w : World) (hn : ps.length = n) (ha : IntsAt w a ps) (hb : IntsAt w b ps) (hm : n ≤ 1000) :
    Calls Try.prog 25 #[.slice a n ca, .slice b n cb] w fun e w' => e = .returned (.bool true) ∧ Below w.heap.size w w' := by
  have HN := Lib.hid hn
  have hnn : ((n : Int) != (n : Int)) = false := by simp
  clear hn
  go_enter Try.func25, Try.ntmps25
  go_wp2_with fail
  go_loopw [5] (fun s5 wr => ∃ k : Nat, k ≤ n ∧ s5 = .int .i64 k ∧ Below w.heap.size w wr) (fun s5 _ => n - (intOf s5).toNat)
  case atStart => exact ⟨0, Nat.zero_le _, rfl, Below.refl _ _⟩
  case round =>
    obtain ⟨k, hk, rfl, hB⟩ := hrel
    by_cases hlt : k < n
    · obtain ⟨b1, o1, l, rfl, hl1, hx, c0⟩ := (ha.below hB (Nat.le_refl _)).at_ (show k < ps.length by rw [HN.out]; exact hlt)
      obtain ⟨b2, o2, m, rfl, hl2, hy, d0⟩ := (hb.below hB (Nat.le_refl _)).at_ (show k < ps.length by rw [HN.out]; exact hlt)
      rw [hx] at hy
      injection hy with hy
      subst hy
      have HB := Lib.hid hB
      clear hx ha hb hB
      go_wp2_with fail
      go_quiet (fail)
      go_wp2_with fail
      go_roundw
      case rel => exact ⟨k + 1, by omega, by go_num, HB.out.trans (Below.mono ⟨rfl, rfl, rfl, Nat.le_refl _, fun _ _ => rfl⟩ HB.out.size)⟩
      case measure => simp [intOf]; omega
    · go_wp2
      go_ret
      exact ⟨rfl, hB⟩

end Go.Proofs.Ytikblaebfpdngaa
