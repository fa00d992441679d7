/- Several texts in one. -/
import Derived.Test.YtdcoebeffbkpnaaGreatEdA
import Derived.BigQuiet
import Derived.Deep.QuietTactic
import Derived.Test.YtdcoebeffbkpnaaGreatMpD
import Derived.Test.YtdcoebeffbkpnaaGreatPtZ
import Derived.Test.YtdcoebeffbkpnaaGreatPtM
import Derived.Test.YtdcoebeffbkpnaaGreatRd4
/- Equal lists of edits, lines and numbers: contracts of Same, SameLines, SameInts. -/
set_option linter.unusedVariables false
set_option linter.unusedSimpArgs false
namespace Go.Proofs.YtdcoebeffbkpnaaGreat
open Go.RowKit Tinker

set_option maxRecDepth 100000 in
set_option maxHeartbeats 1000000 in
theorem sameE_self (n : Nat) (a b : Option Addr) (ca cb : Nat) (xs : List E) (w : World) (hn : xs.length = n) (ha : EditsAt w a xs) (hb : EditsAt w b xs) (hm : n ≤ 1000) :
    Calls Tryz.prog 11 #[.slice a n ca, .slice b n cb] w fun e w' => e = .returned (.bool true) ∧ Below w.heap.size w w' := by
  have HN := Lib.hid hn
  have hnn : ((n : Int) != (n : Int)) = false := by simp
  clear hn
  go_enter Tryz.func11, Tryz.ntmps11
  go_wp2_with fail
  go_loopw [5] (fun s5 wr => ∃ k : Nat, k ≤ n ∧ s5 = .int .i64 k ∧ Below w.heap.size w wr) (fun s5 _ => n - (intOf s5).toNat)
  case atStart => exact ⟨0, Nat.zero_le _, rfl, Below.refl _ _⟩
  case round =>
    obtain ⟨k, hk, rfl, hB⟩ := hrel
    by_cases hlt : k < n
    · obtain ⟨b1, o1, l, rfl, hl1, hx, c0, c1, c2, c3, c4⟩ := (ha.below hB (Nat.le_refl _)).at_ (show k < xs.length by rw [HN.out]; exact hlt)
      obtain ⟨b2, o2, m, rfl, hl2, hy, d0, d1, d2, d3, d4⟩ := (hb.below hB (Nat.le_refl _)).at_ (show k < xs.length by rw [HN.out]; exact hlt)
      rw [hx] at hy
      injection hy with hy
      subst hy
      have HB := Lib.hid hB
      clear hx ha hb hB
      go_wp2_with fail
      go_quiet (fail)
      go_wp2_with fail
      go_roundw
      case rel => exact ⟨k + 1, by omega, by go_num, HB.out.trans (Below.mono ⟨rfl, rfl, rfl, Nat.le_refl _, fun _ _ => rfl⟩ HB.out.size)⟩
      case measure => simp [intOf]; omega
    · go_wp2
      go_ret
      exact ⟨rfl, hB⟩

set_option maxRecDepth 100000 in
set_option maxHeartbeats 400000 in
theorem sameL4_self (n : Nat) (a b : Option Addr) (ca cb : Nat) (ps : List L) (w : World) (hn : ps.length = n) (ha : LinesAt w a ps) (hb : LinesAt w b ps) (hm : n ≤ 1000) :
    Calls Tryz.prog 34 #[.slice a n ca, .slice b n cb] w fun e w' => e = .returned (.bool true) ∧ Below w.heap.size w w' := by
  have HN := Lib.hid hn
  have hnn : ((n : Int) != (n : Int)) = false := by simp
  clear hn
  go_enter Tryz.func34, Tryz.ntmps34
  go_wp2_with fail
  go_loopw [5] (fun s5 wr => ∃ k : Nat, k ≤ n ∧ s5 = .int .i64 k ∧ Below w.heap.size w wr) (fun s5 _ => n - (intOf s5).toNat)
  case atStart => exact ⟨0, Nat.zero_le _, rfl, Below.refl _ _⟩
  case round =>
    obtain ⟨k, hk, rfl, hB⟩ := hrel
    by_cases hlt : k < n
    · obtain ⟨b1, o1, l, rfl, hl1, hx, c0, c1, c2, c3⟩ := (ha.below hB (Nat.le_refl _)).at_ (show k < ps.length by rw [HN.out]; exact hlt)
      obtain ⟨b2, o2, m, rfl, hl2, hy, d0, d1, d2, d3⟩ := (hb.below hB (Nat.le_refl _)).at_ (show k < ps.length by rw [HN.out]; exact hlt)
      rw [hx] at hy
      injection hy with hy
      subst hy
      have HB := Lib.hid hB
      clear hx ha hb hB
      go_wp2_with fail
      go_quiet (fail)
      go_wp2_with fail
      go_roundw
      case rel => exact ⟨k + 1, by omega, by go_num, HB.out.trans (Below.mono ⟨rfl, rfl, rfl, Nat.le_refl _, fun _ _ => rfl⟩ HB.out.size)⟩
      case measure => simp [intOf]; omega
    · go_wp2
      go_ret
      exact ⟨rfl, hB⟩

end Go.Proofs.YtdcoebeffbkpnaaGreat

/- The example of the statements about patches. -/
set_option linter.unusedVariables false
set_option linter.unusedSimpArgs false
namespace Go.Proofs.YtdcoebeffbkpnaaGreat
open Go.RowKit Tinker

def e4P : List L := [⟨1, 0, 3, 0⟩, ⟨3, 0, 0, 0⟩]
def e4X : List E := [⟨0, ⟨1, 0, 4, 0⟩⟩]
def e4Y : List E := [⟨0, ⟨1, 0, 5, 0⟩⟩]
def e4B : List E := [⟨0, ⟨1, 0, 3, 0⟩⟩]
def e4T : List T := [⟨[0, 0, 0, 0], 0, 8⟩]
theorem e4_1 : vpx e4P e4X 0 = 0 := by decide +kernel
theorem e4_2 : szR e4P e4X = 1 := by decide +kernel
theorem e4_3 : inR e4P e4X = e4B := by unfold inR; rw [if_pos e4_1]; rfl
theorem e4_4 : mgC e4X e4Y = 5 := by decide +kernel
theorem e4_5 : mgR e4X e4Y = [] := by unfold mgR; rw [if_neg (by rw [e4_4]; decide)]
theorem e4_6 : vpx e4P e4X (vts e4T) = 0 := by decide +kernel
theorem e4_7 : mnR e4P e4X e4T = true := by decide +kernel
theorem e4_lines (w : World) (t : TypeId) : LinesAt (w.alloc (.cells #[.int .i64 1, .int .i64 0, .int .i64 3, .int .i64 0, .int .i64 3, .int .i64 0, .int .i64 0, .int .i64 0] t)) (some ⟨w.heap.size, 0, none⟩) e4P :=
  .inr ⟨w.heap.size, 0, rfl, by simp, fun j l hj => by
    match j, hj with
    | 0, hj => simp [e4P] at hj; subst hj; exact ⟨hp_cell (hp_new rfl) rfl, hp_cell (hp_new rfl) rfl, hp_cell (hp_new rfl) rfl, hp_cell (hp_new rfl) rfl⟩
    | 1, hj => simp [e4P] at hj; subst hj; exact ⟨hp_cell (hp_new rfl) rfl, hp_cell (hp_new rfl) rfl, hp_cell (hp_new rfl) rfl, hp_cell (hp_new rfl) rfl⟩
    | j + 2, hj => simp [e4P] at hj⟩
theorem e4_edit (w : World) (t : TypeId) (e : E) : EditsAt (w.alloc (.cells #[.int .i64 e.at_, .int .i64 e.ln.op, .int .i64 e.ln.to, .int .i64 e.ln.a, .int .i64 e.ln.b] t)) (some ⟨w.heap.size, 0, none⟩) [e] :=
  .inr ⟨w.heap.size, 0, rfl, by simp, fun j l hj => by
    match j, hj with
    | 0, hj => simp at hj; subst hj; exact ⟨hp_cell (hp_new rfl) rfl, hp_cell (hp_new rfl) rfl, hp_cell (hp_new rfl) rfl, hp_cell (hp_new rfl) rfl, hp_cell (hp_new rfl) rfl⟩
    | j + 1, hj => simp at hj⟩
theorem e4_tests {w : World} {n : Nat} {t : TypeId} {m : Nat} (hm : w.heap.size = m) (h : IntsAt w (some ⟨n, 0, none⟩) [0, 0, 0, 0]) : TestsAt (w.alloc (.cells #[.slice (some ⟨n, 0, none⟩) 4 4, .int .i64 0, .int .i64 8] t)) (some ⟨m, 0, none⟩) e4T := by
  subst hm
  refine .inr ⟨w.heap.size, 0, rfl, by simp, fun j t' hj' => ?_⟩
  match j, hj' with
  | 0, hj' => simp [e4T] at hj'; subst hj'; exact ⟨_, 4, hp_cell (hp_new rfl) rfl, hp_cell (hp_new rfl) rfl, hp_cell (hp_new rfl) rfl, h.below ((Below.refl _ _).alloc (Nat.le_refl _) _) (Nat.le_refl _)⟩
  | j + 1, hj' => simp [e4T] at hj'
theorem e4_ints (w : World) : IntsAt (w.alloc (.cells #[.int .i64 0, .int .i64 0, .int .i64 0, .int .i64 0] 3)) (some ⟨w.heap.size, 0, none⟩) [0, 0, 0, 0] :=
  .inr ⟨w.heap.size, 0, rfl, by simp, fun j n hj => by
    match j, hj with
    | 0, hj => simp at hj; subst hj; exact hp_cell (hp_new rfl) rfl
    | 1, hj => simp at hj; subst hj; exact hp_cell (hp_new rfl) rfl
    | 2, hj => simp at hj; subst hj; exact hp_cell (hp_new rfl) rfl
    | 3, hj => simp at hj; subst hj; exact hp_cell (hp_new rfl) rfl
    | j + 4, hj => simp at hj⟩
theorem e4_program (w : World) : Calls Tryz.prog 41 #[] w fun e w' => ∃ b, e = .returned (.slice (some b) 2 2) ∧ LinesAt w' (some b) e4P ∧ Below w.heap.size w w' := by
  have HL := Lib.hid (e4_lines w 63)
  have HB := Lib.hid (show Below w.heap.size w (w.alloc (.cells #[.int .i64 1, .int .i64 0, .int .i64 3, .int .i64 0, .int .i64 3, .int .i64 0, .int .i64 0, .int .i64 0] 63)) from (Below.refl _ _).alloc (Nat.le_refl _) _)
  go_enter Tryz.func41, Tryz.ntmps41
  go_wp2_with fail
  go_ret
  exact ⟨_, rfl, HL.out, HB.out⟩
theorem e4_size (b c : Addr) (w : World) (h : LinesAt w (some b) e4P) (h2 : EditsAt w (some c) e4X) : Calls Tryz.prog 29 #[.slice (some b) 2 2, .slice (some c) 1 1] w fun e w' => e = .returned (.tuple #[.int .i64 1, .int .i64 0]) ∧ Below w.heap.size w w' := by
  have h := pSize_any (some b) (some c) 2 1 e4P e4X w h h2 (by decide) (by decide)
  rw [e4_1, e4_2] at h
  exact h
theorem e4_inverse (b c : Addr) (w : World) (h : LinesAt w (some b) e4P) (h2 : EditsAt w (some c) e4X) : Calls Tryz.prog 31 #[.slice (some b) 2 2, .slice (some c) 1 1] w fun e w' => ∃ a d, e = .returned (.tuple #[.slice a 1 d, .int .i64 0]) ∧ EditsAt w' a e4B ∧ Below w.heap.size w w' := by
  have h := pInverse_any (some b) (some c) 2 1 e4P e4X w h h2 (by decide) (by decide)
  rw [e4_1, e4_3] at h
  refine h.mono ?_
  rintro e w' ⟨a, d, h1, h2, h3⟩
  exact ⟨a, d, h1, (edits_of_own h2).1, h3⟩
theorem e4_merge (b c : Addr) (w : World) (h : EditsAt w (some b) e4X) (h2 : EditsAt w (some c) e4Y) : Calls Tryz.prog 35 #[.slice (some b) 1 1, .slice (some c) 1 1] w fun e w' => ∃ a d, e = .returned (.tuple #[.slice a 0 d, .int .i64 5]) ∧ Below w.heap.size w w' := by
  have h := pMerge_any (some b) (some c) 1 1 e4X e4Y w h h2 (by decide) (by decide)
  rw [e4_4, e4_5] at h
  refine h.mono ?_
  rintro e w' ⟨a, d, h1, h2, h3⟩
  exact ⟨a, d, h1, h3⟩
theorem e4_minimal (b c d : Addr) (w : World) (h : LinesAt w (some b) e4P) (h2 : EditsAt w (some c) e4X) (h3 : TestsAt w (some d) e4T) : Calls Tryz.prog 40 #[.slice (some b) 2 2, .slice (some c) 1 1, .slice (some d) 1 1] w fun e w' => e = .returned (.tuple #[.bool true, .int .i64 0]) ∧ Below w.heap.size w w' := by
  have h := pIsMinimal_any (some b) (some c) (some d) 2 1 1 e4P e4X e4T w h h2 h3 (by decide) (by decide) (by decide) (by decide)
  rw [e4_6, e4_7] at h
  exact h

set_option maxRecDepth 100000 in
set_option maxHeartbeats 2000000 in
theorem sane_true (w : World) : Calls Tryz.prog 8 #[] w fun e w' => e = .returned (.bool true) ∧ Below w.heap.size w w' := by
  have HX := Lib.hid (show EditsAt (w.alloc (.cells #[.int .i64 0, .int .i64 1, .int .i64 0, .int .i64 4, .int .i64 0] 65)) (some ⟨w.heap.size, 0, none⟩) e4X from e4_edit w _ ⟨0, ⟨1, 0, 4, 0⟩⟩)
  have HB0 := Lib.hid (show Below w.heap.size w (w.alloc (.cells #[.int .i64 0, .int .i64 1, .int .i64 0, .int .i64 4, .int .i64 0] 65)) from (Below.refl _ _).alloc (Nat.le_refl _) _)
  go_enter Tryz.func8, Tryz.ntmps8
  go_wp2_with fail
  refine (e4_program _).mono ?_
  rintro e w1 ⟨b1, rfl, hL, hB⟩
  have HX := Lib.hid (HX.out.below hB (Nat.le_refl _))
  have HL := Lib.hid hL
  have HB1 := Lib.hid (HB0.out.trans (hB.mono HB0.out.size))
  clear hL hB HB0
  go_wp2_with fail
  refine (e4_size _ _ _ HL.out HX.out).mono ?_
  rintro e w2 ⟨rfl, hB⟩
  have HX := Lib.hid (HX.out.below hB (Nat.le_refl _))
  have HB2 := Lib.hid (HB1.out.trans (hB.mono HB1.out.size))
  clear hB HB1 HL
  go_wp2_with fail
  refine (e4_program _).mono ?_
  rintro e w3 ⟨b3, rfl, hL, hB⟩
  have HX := Lib.hid (HX.out.below hB (Nat.le_refl _))
  have HL := Lib.hid hL
  have HB3 := Lib.hid (HB2.out.trans (hB.mono HB2.out.size))
  clear hL hB HB2
  go_wp2_with fail
  refine (e4_inverse _ _ _ HL.out HX.out).mono ?_
  rintro e w4 ⟨a4, d4, rfl, hE, hB⟩
  have HX := Lib.hid (HX.out.below hB (Nat.le_refl _))
  have HE := Lib.hid hE
  have HB4 := Lib.hid (HB3.out.trans (hB.mono HB3.out.size))
  clear hE hB HB3 HL
  have hal : Below w4.heap.size w4 (w4.alloc (.cells #[.int .i64 0, .int .i64 1, .int .i64 0, .int .i64 5, .int .i64 0] 65)) := (Below.refl _ _).alloc (Nat.le_refl _) _
  have HX := Lib.hid (HX.out.below hal (Nat.le_refl _))
  have HE := Lib.hid (HE.out.below hal (Nat.le_refl _))
  have HB4 := Lib.hid (HB4.out.trans (hal.mono HB4.out.size))
  have HY := Lib.hid (show EditsAt (w4.alloc (.cells #[.int .i64 0, .int .i64 1, .int .i64 0, .int .i64 5, .int .i64 0] 65)) (some ⟨w4.heap.size, 0, none⟩) e4Y from e4_edit w4 _ ⟨0, ⟨1, 0, 5, 0⟩⟩)
  clear hal
  go_wp2_with fail
  refine (e4_merge _ _ _ HX.out HY.out).mono ?_
  rintro e w5 ⟨a5, d5, rfl, hB⟩
  have HX := Lib.hid (HX.out.below hB (Nat.le_refl _))
  have HE := Lib.hid (HE.out.below hB (Nat.le_refl _))
  have HB5 := Lib.hid (HB4.out.trans (hB.mono HB4.out.size))
  clear hB HB4 HY
  go_wp2_with fail
  refine (e4_program _).mono ?_
  rintro e w6 ⟨b6, rfl, hL, hB⟩
  have HX := Lib.hid (HX.out.below hB (Nat.le_refl _))
  have HE := Lib.hid (HE.out.below hB (Nat.le_refl _))
  have HL := Lib.hid hL
  have HB6 := Lib.hid (HB5.out.trans (hB.mono HB5.out.size))
  clear hL hB HB5
  have hal : Below w6.heap.size w6 ((w6.alloc (.cells #[.int .i64 0, .int .i64 0, .int .i64 0, .int .i64 0] 3)).alloc (.cells #[.slice (some ⟨w6.heap.size, 0, none⟩) 4 4, .int .i64 0, .int .i64 8] 53)) := ((Below.refl _ _).alloc (Nat.le_refl _) _).alloc (by simp) _
  have HX := Lib.hid (HX.out.below hal (Nat.le_refl _))
  have HE := Lib.hid (HE.out.below hal (Nat.le_refl _))
  have HL := Lib.hid (HL.out.below hal (Nat.le_refl _))
  have HB6 := Lib.hid (HB6.out.trans (hal.mono HB6.out.size))
  have HT := Lib.hid (e4_tests (w := w6.alloc (.cells #[.int .i64 0, .int .i64 0, .int .i64 0, .int .i64 0] 3)) (n := w6.heap.size) (t := 53) (m := w6.heap.size + 1) (by simp) (e4_ints w6))
  clear hal
  go_wp2_with fail
  refine (e4_minimal _ _ _ _ HL.out HX.out HT.out).mono ?_
  rintro e w7 ⟨rfl, hB⟩
  have HE := Lib.hid (HE.out.below hB (Nat.le_refl _))
  have HB7 := Lib.hid (HB6.out.trans (hB.mono HB6.out.size))
  clear hB HB6 HT HL HX
  have hal : Below w7.heap.size w7 (w7.alloc (.cells #[.int .i64 0, .int .i64 1, .int .i64 0, .int .i64 3, .int .i64 0] 65)) := (Below.refl _ _).alloc (Nat.le_refl _) _
  have HE := Lib.hid (HE.out.below hal (Nat.le_refl _))
  have HB7 := Lib.hid (HB7.out.trans (hal.mono HB7.out.size))
  have HZ := Lib.hid (show EditsAt (w7.alloc (.cells #[.int .i64 0, .int .i64 1, .int .i64 0, .int .i64 3, .int .i64 0] 65)) (some ⟨w7.heap.size, 0, none⟩) e4B from e4_edit w7 _ ⟨0, ⟨1, 0, 3, 0⟩⟩)
  clear hal
  go_wp2_with fail
  refine (sameE_self 1 _ _ _ _ e4B _ rfl HE.out HZ.out (by decide)).mono ?_
  rintro e w8 ⟨rfl, hB⟩
  have HB8 := Lib.hid (HB7.out.trans (hB.mono HB7.out.size))
  clear hB
  go_wp2_with fail
  go_ret
  exact ⟨rfl, HB8.out⟩

end Go.Proofs.YtdcoebeffbkpnaaGreat

/- PatchDoes: the walk. -/
set_option linter.unusedVariables false
set_option linter.unusedSimpArgs false
namespace Go.Proofs.YtdcoebeffbkpnaaGreat
open Go.RowKit Tinker

set_option maxHeartbeats 400000 in
theorem long4_any (a g : Option Addr) (n m ca cg : Nat) (w : World) : Calls Tryz.prog 6 #[.slice a n ca, .slice g m cg] w fun e w' => e = .returned (.bool (decide (100 < n) || decide (100 < m))) ∧ w = w' := by
  by_cases h1 : 100 < n
  · rw [show (decide (100 < n) || decide (100 < m)) = true by simp [h1]]
    have h2 : (100 : Int) < (n : Int) := by omega
    clear h1
    go_enter Tryz.func6, Tryz.ntmps6
    go_wp2
    go_ret
    exact ⟨rfl, rfl⟩
  · by_cases h3 : 100 < m
    · rw [show (decide (100 < n) || decide (100 < m)) = true by simp [h3]]
      have h2 : ¬ (100 : Int) < (n : Int) := by omega
      have h4 : (100 : Int) < (m : Int) := by omega
      clear h1 h3
      go_enter Tryz.func6, Tryz.ntmps6
      go_wp2
      go_ret
      exact ⟨rfl, rfl⟩
    · rw [show (decide (100 < n) || decide (100 < m)) = false by simp [h1, h3]]
      have h2 : ¬ (100 : Int) < (n : Int) := by omega
      have h4 : ¬ (100 : Int) < (m : Int) := by omega
      clear h1 h3
      go_enter Tryz.func6, Tryz.ntmps6
      go_wp2
      go_ret
      exact ⟨rfl, rfl⟩
theorem doP_len (ps : List L) (xs : List E) : (doP ps xs).length ≤ ps.length := by
  unfold doP
  split
  · rw [doL_len]; exact Nat.le_refl _
  · simp

end Go.Proofs.YtdcoebeffbkpnaaGreat
