/- Several texts in one. -/
import Derived.Test.YtigaklppdlknkaaEdA
import Derived.BigQuiet
import Derived.Deep.QuietTactic
import Derived.Test.YtigaklppdlknkaaMpD
import Derived.Test.YtigaklppdlknkaaPtZ
import Derived.Test.YtigaklppdlknkaaPtM
import Derived.Test.YtigaklppdlknkaaRd4
/- Equal lists of edits, lines and numbers: contracts of Same, SameLines, SameInts. -/
set_option linter.unusedVariables false
set_option linter.unusedSimpArgs false
namespace Go.Proofs.Ytigaklppdlknkaa
open Go.RowKit Tinker

set_option maxRecDepth 100000 in
set_option maxHeartbeats 1000000 in
theorem sameE_self (n : Nat) (a b : Option Addr) (ca cb : Nat) (xs : List E) (w : World) (hn : xs.length = n) (ha : EditsAt w a xs) (hb : EditsAt w b xs) (hm : n ≤ 1000) :
    Calls Try.prog 28 #[.slice a n ca, .slice b n cb] w fun e w' => e = .returned (.bool true) ∧ Below w.heap.size w w' := by
  have HN := Lib.hid hn
  have hnn : ((n : Int) != (n : Int)) = false := by simp
  clear hn
  go_enter Try.func28, Try.ntmps28
  go_wp2_with fail
  go_loopw [5] (fun s5 wr => ∃ k : Nat, k ≤ n ∧ s5 = .int .i64 k ∧ Below w.heap.size w wr) (fun s5 _ => n - (intOf s5).toNat)
  case atStart => exact ⟨0, Nat.zero_le _, rfl, Below.refl _ _⟩
  case round =>
    obtain ⟨k, hk, rfl, hB⟩ := hrel
    by_cases hlt : k < n
    · obtain ⟨b1, o1, l, rfl, hl1, hx, c0, c1, c2, c3, c4⟩ := (ha.below hB (Nat.le_refl _)).at_ (show k < xs.length by rw [HN.out]; exact hlt)
      obtain ⟨b2, o2, m, rfl, hl2, hy, d0, d1, d2, d3, d4⟩ := (hb.below hB (Nat.le_refl _)).at_ (show k < xs.length by rw [HN.out]; exact hlt)
      rw [hx] at hy
      injection hy with hy
      subst hy
      have HB := Lib.hid hB
      clear hx ha hb hB
      go_wp2_with fail
      go_quiet (fail)
      go_wp2_with fail
      go_roundw
      case rel => exact ⟨k + 1, by omega, by go_num, HB.out.trans (Below.mono ⟨rfl, rfl, rfl, Nat.le_refl _, fun _ _ => rfl⟩ HB.out.size)⟩
      case measure => simp [intOf]; omega
    · go_wp2
      go_ret
      exact ⟨rfl, hB⟩

set_option maxRecDepth 100000 in
set_option maxHeartbeats 400000 in
theorem sameL4_self (n : Nat) (a b : Option Addr) (ca cb : Nat) (ps : List L) (w : World) (hn : ps.length = n) (ha : LinesAt w a ps) (hb : LinesAt w b ps) (hm : n ≤ 1000) :
    Calls Try.prog 25 #[.slice a n ca, .slice b n cb] w fun e w' => e = .returned (.bool true) ∧ Below w.heap.size w w' := by
  have HN := Lib.hid hn
  have hnn : ((n : Int) != (n : Int)) = false := by simp
  clear hn
  go_enter Try.func25, Try.ntmps25
  go_wp2_with fail
  go_loopw [5] (fun s5 wr => ∃ k : Nat, k ≤ n ∧ s5 = .int .i64 k ∧ Below w.heap.size w wr) (fun s5 _ => n - (intOf s5).toNat)
  case atStart => exact ⟨0, Nat.zero_le _, rfl, Below.refl _ _⟩
  case round =>
    obtain ⟨k, hk, rfl, hB⟩ := hrel
    by_cases hlt : k < n
    · obtain ⟨b1, o1, l, rfl, hl1, hx, c0, c1, c2, c3⟩ := (ha.below hB (Nat.le_refl _)).at_ (show k < ps.length by rw [HN.out]; exact hlt)
      obtain ⟨b2, o2, m, rfl, hl2, hy, d0, d1, d2, d3⟩ := (hb.below hB (Nat.le_refl _)).at_ (show k < ps.length by rw [HN.out]; exact hlt)
      rw [hx] at hy
      injection hy with hy
      subst hy
      have HB := Lib.hid hB
      clear hx ha hb hB
      go_wp2_with fail
      go_quiet (fail)
      go_wp2_with fail
      go_roundw
      case rel => exact ⟨k + 1, by omega, by go_num, HB.out.trans (Below.mono ⟨rfl, rfl, rfl, Nat.le_refl _, fun _ _ => rfl⟩ HB.out.size)⟩
      case measure => simp [intOf]; omega
    · go_wp2
      go_ret
      exact ⟨rfl, hB⟩

set_option maxRecDepth 100000 in
set_option maxHeartbeats 400000 in
theorem sameI4_self (n : Nat) (a b : Option Addr) (ca cb : Nat) (ps : List Int) (w : World) (hn : ps.length = n) (ha : IntsAt w a ps) (hb : IntsAt w b ps) (hm : n ≤ 1000) :
    Calls Try.prog 43 #[.slice a n ca, .slice b n cb] w fun e w' => e = .returned (.bool true) ∧ Below w.heap.size w w' := by
  have HN := Lib.hid hn
  have hnn : ((n : Int) != (n : Int)) = false := by simp
  clear hn
  go_enter Try.func43, Try.ntmps43
  go_wp2_with fail
  go_loopw [5] (fun s5 wr => ∃ k : Nat, k ≤ n ∧ s5 = .int .i64 k ∧ Below w.heap.size w wr) (fun s5 _ => n - (intOf s5).toNat)
  case atStart => exact ⟨0, Nat.zero_le _, rfl, Below.refl _ _⟩
  case round =>
    obtain ⟨k, hk, rfl, hB⟩ := hrel
    by_cases hlt : k < n
    · obtain ⟨b1, o1, l, rfl, hl1, hx, c0⟩ := (ha.below hB (Nat.le_refl _)).at_ (show k < ps.length by rw [HN.out]; exact hlt)
      obtain ⟨b2, o2, m, rfl, hl2, hy, d0⟩ := (hb.below hB (Nat.le_refl _)).at_ (show k < ps.length by rw [HN.out]; exact hlt)
      rw [hx] at hy
      injection hy with hy
      subst hy
      have HB := Lib.hid hB
      clear hx ha hb hB
      go_wp2_with fail
      go_quiet (fail)
      go_wp2_with fail
      go_roundw
      case rel => exact ⟨k + 1, by omega, by go_num, HB.out.trans (Below.mono ⟨rfl, rfl, rfl, Nat.le_refl _, fun _ _ => rfl⟩ HB.out.size)⟩
      case measure => simp [intOf]; omega
    · go_wp2
      go_ret
      exact ⟨rfl, hB⟩

end Go.Proofs.Ytigaklppdlknkaa

/- The example of the statements about patches. -/
set_option linter.unusedVariables false
set_option linter.unusedSimpArgs false
namespace Go.Proofs.Ytigaklppdlknkaa
open Go.RowKit Tinker

def e4P : List L := [⟨1, 0, 3, 0⟩, ⟨3, 0, 0, 0⟩]
def e4X : List E := [⟨0, ⟨1, 0, 4, 0⟩⟩]
def e4Y : List E := [⟨0, ⟨1, 0, 5, 0⟩⟩]
def e4B : List E := [⟨0, ⟨1, 0, 3, 0⟩⟩]
def e4T : List T := [⟨[0, 0, 0, 0], 0, 8⟩]
theorem e4_1 : vpx e4P e4X 0 = 0 := by decide +kernel
theorem e4_2 : szR e4P e4X = 1 := by decide +kernel
theorem e4_3 : inR e4P e4X = e4B := by unfold inR; rw [if_pos e4_1]; rfl
theorem e4_4 : mgC e4X e4Y = 5 := by decide +kernel
theorem e4_5 : mgR e4X e4Y = [] := by unfold mgR; rw [if_neg (by rw [e4_4]; decide)]
theorem e4_6 : vpx e4P e4X (vts e4T) = 0 := by decide +kernel
theorem e4_7 : mnR e4P e4X e4T = true := by decide +kernel
theorem e4_lines (w : World) (t : TypeId) : LinesAt (w.alloc (.cells #[.int .i64 1, .int .i64 0, .int .i64 3, .int .i64 0, .int .i64 3, .int .i64 0, .int .i64 0, .int .i64 0] t)) (some ⟨w.heap.size, 0, none⟩) e4P :=
  .inr ⟨w.heap.size, 0, rfl, by simp, fun j l hj => by
    match j, hj with
    | 0, hj => simp [e4P] at hj; subst hj; exact ⟨hp_cell (hp_new rfl) rfl, hp_cell (hp_new rfl) rfl, hp_cell (hp_new rfl) rfl, hp_cell (hp_new rfl) rfl⟩
    | 1, hj => simp [e4P] at hj; subst hj; exact ⟨hp_cell (hp_new rfl) rfl, hp_cell (hp_new rfl) rfl, hp_cell (hp_new rfl) rfl, hp_cell (hp_new rfl) rfl⟩
    | j + 2, hj => simp [e4P] at hj⟩
theorem e4_edit (w : World) (t : TypeId) (e : E) : EditsAt (w.alloc (.cells #[.int .i64 e.at_, .int .i64 e.ln.op, .int .i64 e.ln.to, .int .i64 e.ln.a, .int .i64 e.ln.b] t)) (some ⟨w.heap.size, 0, none⟩) [e] :=
  .inr ⟨w.heap.size, 0, rfl, by simp, fun j l hj => by
    match j, hj with
    | 0, hj => simp at hj; subst hj; exact ⟨hp_cell (hp_new rfl) rfl, hp_cell (hp_new rfl) rfl, hp_cell (hp_new rfl) rfl, hp_cell (hp_new rfl) rfl, hp_cell (hp_new rfl) rfl⟩
    | j + 1, hj => simp at hj⟩
theorem e4_tests {w : World} {n : Nat} {t : TypeId} {m : Nat} (hm : w.heap.size = m) (h : IntsAt w (some ⟨n, 0, none⟩) [0, 0, 0, 0]) : TestsAt (w.alloc (.cells #[.slice (some ⟨n, 0, none⟩) 4 4, .int .i64 0, .int .i64 8] t)) (some ⟨m, 0, none⟩) e4T := by
  subst hm
  refine .inr ⟨w.heap.size, 0, rfl, by simp, fun j t' hj' => ?_⟩
  match j, hj' with
  | 0, hj' => simp [e4T] at hj'; subst hj'; exact ⟨_, 4, hp_cell (hp_new rfl) rfl, hp_cell (hp_new rfl) rfl, hp_cell (hp_new rfl) rfl, h.below ((Below.refl _ _).alloc (Nat.le_refl _) _) (Nat.le_refl _)⟩
  | j + 1, hj' => simp [e4T] at hj'
theorem e4_ints (w : World) : IntsAt (w.alloc (.cells #[.int .i64 0, .int .i64 0, .int .i64 0, .int .i64 0] 3)) (some ⟨w.heap.size, 0, none⟩) [0, 0, 0, 0] :=
  .inr ⟨w.heap.size, 0, rfl, by simp, fun j n hj => by
    match j, hj with
    | 0, hj => simp at hj; subst hj; exact hp_cell (hp_new rfl) rfl
    | 1, hj => simp at hj; subst hj; exact hp_cell (hp_new rfl) rfl
    | 2, hj => simp at hj; subst hj; exact hp_cell (hp_new rfl) rfl
    | 3, hj => simp at hj; subst hj; exact hp_cell (hp_new rfl) rfl
    | j + 4, hj => simp at hj⟩
theorem e4_program (w : World) : Calls Try.prog 70 #[] w fun e w' => ∃ b, e = .returned (.slice (some b) 2 2) ∧ LinesAt w' (some b) e4P ∧ Below w.heap.size w w' := by
  have HL := Lib.hid (e4_lines w 40)
  have HB := Lib.hid (show Below w.heap.size w (w.alloc (.cells #[.int .i64 1, .int .i64 0, .int .i64 3, .int .i64 0, .int .i64 3, .int .i64 0, .int .i64 0, .int .i64 0] 40)) from (Below.refl _ _).alloc (Nat.le_refl _) _)
  go_enter Try.func70, Try.ntmps70
  go_wp2_with fail
  go_ret
  exact ⟨_, rfl, HL.out, HB.out⟩
theorem e4_size (b c : Addr) (w : World) (h : LinesAt w (some b) e4P) (h2 : EditsAt w (some c) e4X) : Calls Try.prog 32 #[.slice (some b) 2 2, .slice (some c) 1 1] w fun e w' => e = .returned (.tuple #[.int .i64 1, .int .i64 0]) ∧ Below w.heap.size w w' := by
  have h := pSize_any (some b) (some c) 2 1 e4P e4X w h h2 (by decide) (by decide)
  rw [e4_1, e4_2] at h
  exact h
theorem e4_inverse (b c : Addr) (w : World) (h : LinesAt w (some b) e4P) (h2 : EditsAt w (some c) e4X) : Calls Try.prog 26 #[.slice (some b) 2 2, .slice (some c) 1 1] w fun e w' => ∃ a d, e = .returned (.tuple #[.slice a 1 d, .int .i64 0]) ∧ EditsAt w' a e4B ∧ Below w.heap.size w w' := by
  have h := pInverse_any (some b) (some c) 2 1 e4P e4X w h h2 (by decide) (by decide)
  rw [e4_1, e4_3] at h
  refine h.mono ?_
  rintro e w' ⟨a, d, h1, h2, h3⟩
  exact ⟨a, d, h1, (edits_of_own h2).1, h3⟩
theorem e4_merge (b c : Addr) (w : World) (h : EditsAt w (some b) e4X) (h2 : EditsAt w (some c) e4Y) : Calls Try.prog 37 #[.slice (some b) 1 1, .slice (some c) 1 1] w fun e w' => ∃ a d, e = .returned (.tuple #[.slice a 0 d, .int .i64 5]) ∧ Below w.heap.size w w' := by
  have h := pMerge_any (some b) (some c) 1 1 e4X e4Y w h h2 (by decide) (by decide)
  rw [e4_4, e4_5] at h
  refine h.mono ?_
  rintro e w' ⟨a, d, h1, h2, h3⟩
  exact ⟨a, d, h1, h3⟩
theorem e4_minimal (b c d : Addr) (w : World) (h : LinesAt w (some b) e4P) (h2 : EditsAt w (some c) e4X) (h3 : TestsAt w (some d) e4T) : Calls Try.prog 71 #[.slice (some b) 2 2, .slice (some c) 1 1, .slice (some d) 1 1] w fun e w' => e = .returned (.tuple #[.bool true, .int .i64 0]) ∧ Below w.heap.size w w' := by
  have h := pIsMinimal_any (some b) (some c) (some d) 2 1 1 e4P e4X e4T w h h2 h3 (by decide) (by decide) (by decide) (by decide)
  rw [e4_6, e4_7] at h
  exact h

set_option maxRecDepth 100000 in
set_option maxHeartbeats 2000000 in
theorem sane_true (w : World) : Calls Try.prog 20 #[] w fun e w' => e = .returned (.bool true) ∧ Below w.heap.size w w' := by
  have HX := Lib.hid (show EditsAt (w.alloc (.cells #[.int .i64 0, .int .i64 1, .int .i64 0, .int .i64 4, .int .i64 0] 96)) (some ⟨w.heap.size, 0, none⟩) e4X from e4_edit w _ ⟨0, ⟨1, 0, 4, 0⟩⟩)
  have HB0 := Lib.hid (show Below w.heap.size w (w.alloc (.cells #[.int .i64 0, .int .i64 1, .int .i64 0, .int .i64 4, .int .i64 0] 96)) from (Below.refl _ _).alloc (Nat.le_refl _) _)
  go_enter Try.func20, Try.ntmps20
  go_wp2_with fail
  refine (e4_program _).mono ?_
  rintro e w1 ⟨b1, rfl, hL, hB⟩
  have HX := Lib.hid (HX.out.below hB (Nat.le_refl _))
  have HL := Lib.hid hL
  have HB1 := Lib.hid (HB0.out.trans (hB.mono HB0.out.size))
  clear hL hB HB0
  go_wp2_with fail
  refine (e4_size _ _ _ HL.out HX.out).mono ?_
  rintro e w2 ⟨rfl, hB⟩
  have HX := Lib.hid (HX.out.below hB (Nat.le_refl _))
  have HB2 := Lib.hid (HB1.out.trans (hB.mono HB1.out.size))
  clear hB HB1 HL
  go_wp2_with fail
  refine (e4_program _).mono ?_
  rintro e w3 ⟨b3, rfl, hL, hB⟩
  have HX := Lib.hid (HX.out.below hB (Nat.le_refl _))
  have HL := Lib.hid hL
  have HB3 := Lib.hid (HB2.out.trans (hB.mono HB2.out.size))
  clear hL hB HB2
  go_wp2_with fail
  refine (e4_inverse _ _ _ HL.out HX.out).mono ?_
  rintro e w4 ⟨a4, d4, rfl, hE, hB⟩
  have HX := Lib.hid (HX.out.below hB (Nat.le_refl _))
  have HE := Lib.hid hE
  have HB4 := Lib.hid (HB3.out.trans (hB.mono HB3.out.size))
  clear hE hB HB3 HL
  have hal : Below w4.heap.size w4 (w4.alloc (.cells #[.int .i64 0, .int .i64 1, .int .i64 0, .int .i64 5, .int .i64 0] 96)) := (Below.refl _ _).alloc (Nat.le_refl _) _
  have HX := Lib.hid (HX.out.below hal (Nat.le_refl _))
  have HE := Lib.hid (HE.out.below hal (Nat.le_refl _))
  have HB4 := Lib.hid (HB4.out.trans (hal.mono HB4.out.size))
  have HY := Lib.hid (show EditsAt (w4.alloc (.cells #[.int .i64 0, .int .i64 1, .int .i64 0, .int .i64 5, .int .i64 0] 96)) (some ⟨w4.heap.size, 0, none⟩) e4Y from e4_edit w4 _ ⟨0, ⟨1, 0, 5, 0⟩⟩)
  clear hal
  go_wp2_with fail
  refine (e4_merge _ _ _ HX.out HY.out).mono ?_
  rintro e w5 ⟨a5, d5, rfl, hB⟩
  have HX := Lib.hid (HX.out.below hB (Nat.le_refl _))
  have HE := Lib.hid (HE.out.below hB (Nat.le_refl _))
  have HB5 := Lib.hid (HB4.out.trans (hB.mono HB4.out.size))
  clear hB HB4 HY
  go_wp2_with fail
  refine (e4_program _).mono ?_
  rintro e w6 ⟨b6, rfl, hL, hB⟩
  have HX := Lib.hid (HX.out.below hB (Nat.le_refl _))
  have HE := Lib.hid (HE.out.below hB (Nat.le_refl _))
  have HL := Lib.hid hL
  have HB6 := Lib.hid (HB5.out.trans (hB.mono HB5.out.size))
  clear hL hB HB5
  have hal : Below w6.heap.size w6 ((w6.alloc (.cells #[.int .i64 0, .int .i64 0, .int .i64 0, .int .i64 0] 3)).alloc (.cells #[.slice (some ⟨w6.heap.size, 0, none⟩) 4 4, .int .i64 0, .int .i64 8] 70)) := ((Below.refl _ _).alloc (Nat.le_refl _) _).alloc (by simp) _
  have HX := Lib.hid (HX.out.below hal (Nat.le_refl _))
  have HE := Lib.hid (HE.out.below hal (Nat.le_refl _))
  have HL := Lib.hid (HL.out.below hal (Nat.le_refl _))
  have HB6 := Lib.hid (HB6.out.trans (hal.mono HB6.out.size))
  have HT := Lib.hid (e4_tests (w := w6.alloc (.cells #[.int .i64 0, .int .i64 0, .int .i64 0, .int .i64 0] 3)) (n := w6.heap.size) (t := 70) (m := w6.heap.size + 1) (by simp) (e4_ints w6))
  clear hal
  go_wp2_with fail
  refine (e4_minimal _ _ _ _ HL.out HX.out HT.out).mono ?_
  rintro e w7 ⟨rfl, hB⟩
  have HE := Lib.hid (HE.out.below hB (Nat.le_refl _))
  have HB7 := Lib.hid (HB6.out.trans (hB.mono HB6.out.size))
  clear hB HB6 HT HL HX
  have hal : Below w7.heap.size w7 (w7.alloc (.cells #[.int .i64 0, .int .i64 1, .int .i64 0, .int .i64 3, .int .i64 0] 96)) := (Below.refl _ _).alloc (Nat.le_refl _) _
  have HE := Lib.hid (HE.out.below hal (Nat.le_refl _))
  have HB7 := Lib.hid (HB7.out.trans (hal.mono HB7.out.size))
  have HZ := Lib.hid (show EditsAt (w7.alloc (.cells #[.int .i64 0, .int .i64 1, .int .i64 0, .int .i64 3, .int .i64 0] 96)) (some ⟨w7.heap.size, 0, none⟩) e4B from e4_edit w7 _ ⟨0, ⟨1, 0, 3, 0⟩⟩)
  clear hal
  go_wp2_with fail
  refine (sameE_self 1 _ _ _ _ e4B _ rfl HE.out HZ.out (by decide)).mono ?_
  rintro e w8 ⟨rfl, hB⟩
  have HB8 := Lib.hid (HB7.out.trans (hB.mono HB7.out.size))
  clear hB
  go_wp2_with fail
  go_ret
  exact ⟨rfl, HB8.out⟩

end Go.Proofs.Ytigaklppdlknkaa

/- PatchDoes: the walk. -/
set_option linter.unusedVariables false
set_option linter.unusedSimpArgs false
namespace Go.Proofs.Ytigaklppdlknkaa
open Go.RowKit Tinker

set_option maxHeartbeats 400000 in
theorem long4_any (a g : Option Addr) (n m ca cg : Nat) (w : World) : Calls Try.prog 19 #[.slice a n ca, .slice g m cg] w fun e w' => e = .returned (.bool (decide (100 < n) || decide (100 < m))) ∧ w = w' := by
  by_cases h1 : 100 < n
  · rw [show (decide (100 < n) || decide (100 < m)) = true by simp [h1]]
    have h2 : (100 : Int) < (n : Int) := by omega
    clear h1
    go_enter Try.func19, Try.ntmps19
    go_wp2
    go_ret
    exact ⟨rfl, rfl⟩
  · by_cases h3 : 100 < m
    · rw [show (decide (100 < n) || decide (100 < m)) = true by simp [h3]]
      have h2 : ¬ (100 : Int) < (n : Int) := by omega
      have h4 : (100 : Int) < (m : Int) := by omega
      clear h1 h3
      go_enter Try.func19, Try.ntmps19
      go_wp2
      go_ret
      exact ⟨rfl, rfl⟩
    · rw [show (decide (100 < n) || decide (100 < m)) = false by simp [h1, h3]]
      have h2 : ¬ (100 : Int) < (n : Int) := by omega
      have h4 : ¬ (100 : Int) < (m : Int) := by omega
      clear h1 h3
      go_enter Try.func19, Try.ntmps19
      go_wp2
      go_ret
      exact ⟨rfl, rfl⟩
theorem doP_len (ps : List L) (xs : List E) : (doP ps xs).length ≤ ps.length := by
  unfold doP
  split
  · rw [doL_len]; exact Nat.le_refl _
  · simp

set_option maxRecDepth 100000 in
set_option maxHeartbeats 4000000 in
theorem patchDoes_walk (a : Option Addr) (ca : Nat) (ps : List L) (g : Option Addr) (cg : Nat) (xs : List E) (w : World) (hp : LinesAt w a ps) (hc : a = none → ca = 0) (hx : EditsAt w g xs) (hc1 : g = none → cg = 0) :
    Calls Try.prog 4 #[.slice a ps.length ca, .slice g xs.length cg] w fun e w' => e = .returned (.bool true) ∧ Below w.heap.size w w' := by
  clear hc1
  obtain ⟨i0, hi, hz0, hz1, hz2⟩ := info_parts info_line
  have HK := Lib.hid (fun w => sane_true w)
  have HL := Lib.hid (fun w => long4_any a g ps.length xs.length ca cg w)
  by_cases g1 : 100 < ps.length ∨ 100 < xs.length
  · rw [show (decide (100 < ps.length) || decide (100 < xs.length)) = true by simpa using g1] at HL
    clear hp hx hc g1
    go_enter Try.func4, Try.ntmps4
    go_wp2_with fail
    refine (HL.out _).mono ?_
    rintro e w1 ⟨rfl, rfl⟩
    go_wp2_with fail
    refine (HK.out _).mono ?_
    rintro e w2 ⟨rfl, hB⟩
    go_wp2_with fail
    go_ret
    exact ⟨rfl, hB⟩
  rw [show (decide (100 < ps.length) || decide (100 < xs.length)) = false by simp; omega] at HL
  have C1 := Lib.hid (fun b c w h h' => pDo_any b g c cg ps xs w h h' (by omega) (by omega))
  have C2 := Lib.hid (fun w h h' => rDo4_any a g ca cg ps xs w h hc h' (by omega))
  have C3 := Lib.hid (fun w h => pValidate_any g cg xs w h (by omega))
  have C4 := Lib.hid (fun w h => rVal4_any g cg xs w h (by omega))
  have hdl := doP_len ps xs
  have S1 := Lib.hid (fun a' b' c' d' w h1 h2 => sameL4_self (doP ps xs).length a' b' c' d' (doP ps xs) w rfl h1 h2 (by omega))
  have S2 := Lib.hid (fun a' b' c' d' w h1 h2 => sameL4_self ps.length a' b' c' d' ps w rfl h1 h2 (by omega))
  have HP := Lib.hid hp
  have HX := Lib.hid hx
  have hpl : ps.length ≤ 100 := by omega
  generalize doP ps xs = q at C1 C2 S1 hdl
  generalize vpx ps xs 0 = c at C1 C2
  generalize vx xs = v at C3 C4
  have hown := World.ownsRow_lit (base := w.heap.size) (e := 40) (size := 4) w #[] 0 (Nat.le_refl _) (by simp [maxLen]) (by simp)
  go_enter Try.func4, Try.ntmps4
  go_wp2_with fail
  refine (HL.out _).mono ?_
  rintro e w1 ⟨rfl, rfl⟩
  go_upto_region 3 with fail
  go_cut [5] (fun s5 wx => wx.ownsRow w.heap.size 40 4 s5 ps.length (lc ps) ∧ Below w.heap.size w wx)
  case first =>
    clear C1 C2 C3 C4 S1 S2 HX hx
    cases a with
    | none =>
      have hps := hp.none
      have hc0 := hc rfl
      subst hps
      subst hc0
      clear hp hc HP
      go_wp2_with (at_builtin; (refine wpList_append_own_none rfl (.tmp 15) (.tmp 16) 32 rfl w.heap.size 40 i0 4 Try.underlying32 hi _ 0 [] rfl hown rfl ?_))
      have HO := Lib.hid hown
      clear hown
      go_wp2_with fail
      go_meet
      exact ⟨HO.out, (Below.refl _ _).alloc (Nat.le_refl _) _⟩
    | some ad =>
      have HC := Lib.hid hp.cells
      clear hp hc HP
      go_wp2_with (at_builtin; (refine wpList_append_own _ rfl (.tmp 15) (.tmp 16) 32 rfl w.heap.size 40 i0 (.agg #[.int .i64 0, .int .i64 0, .int .i64 0, .int .i64 0]) 4 32 Try.underlying32 hi hz0 hz1 hz2 rfl (by decide) _ 0 [] rfl hown ad ps.length ca (lc ps) rfl ?c1 ?c2 ?c3 ?c4 ?c5 ?c6 ?_))
      case c1 => exact lc_length ps
      case c2 => intro j u hu; exact cell_alloc_keep (HC.out j u hu)
      case c3 => exact lc_one ps
      case c4 => simp [maxLen]; omega
      case c5 => omega
      case c6 => simp
      intro v' w1 hown1 hgrow _
      have HB := Lib.hid (show Below w.heap.size w w1 from ((Below.refl _ _).alloc (Nat.le_refl _) _).grown hgrow (by simp) (by rintro k hk; simp [Value.ownBlock] at hk; omega))
      have HO := Lib.hid (show w1.ownsRow w.heap.size 40 4 v' ps.length (lc ps) by simpa using hown1)
      clear hown1 hown hgrow
      go_wp2_with fail
      go_meet
      exact ⟨HO.out, HB.out⟩
  case rest =>
    obtain ⟨hO0, hB0⟩ := hcut
    rename_i wc
    obtain ⟨va, vc, rfl⟩ := own_slice hO0
    have HO0 := Lib.hid (lines_of_own hO0).1
    have HB0 := Lib.hid hB0
    clear hO0 hB0 hown hc hp hx
    go_wp2_with fail
    refine (C1.out _ _ _ HO0.out (HX.out.below HB0.out (Nat.le_refl _))).mono ?_
    rintro e w1 ⟨a1, c1, rfl, h1, hB1⟩
    have R1 := Lib.hid h1
    have HW := Lib.hid hB1
    clear h1 hB1
    go_wp2_with fail
    refine (C2.out _ (HP.out.below (HB0.out.trans (HW.out.mono HB0.out.size)) (Nat.le_refl _)) (HX.out.below (HB0.out.trans (HW.out.mono HB0.out.size)) (Nat.le_refl _))).mono ?_
    rintro e w2 ⟨a2, c2, rfl, h2, hB2⟩
    have R1 := Lib.hid (own_below R1.out hB2 (Nat.le_refl _))
    have R2 := Lib.hid (lines_of_own h2).1
    have HW := Lib.hid (HW.out.trans (hB2.mono HW.out.size))
    clear h2 hB2
    go_wp2_with fail
    refine (C3.out _ (HX.out.below (HB0.out.trans (HW.out.mono HB0.out.size)) (Nat.le_refl _))).mono ?_
    rintro e w3 ⟨rfl, hB3⟩
    have R1 := Lib.hid (own_below R1.out hB3 (Nat.le_refl _))
    have R2 := Lib.hid (R2.out.below hB3 (Nat.le_refl _))
    have HW := Lib.hid (HW.out.trans (hB3.mono HW.out.size))
    clear hB3
    go_wp2_with fail
    refine (C4.out _ (HX.out.below (HB0.out.trans (HW.out.mono HB0.out.size)) (Nat.le_refl _))).mono ?_
    rintro e w4 ⟨rfl, hB4⟩
    have R1 := Lib.hid (own_below R1.out hB4 (Nat.le_refl _))
    have R2 := Lib.hid (R2.out.below hB4 (Nat.le_refl _))
    have HW := Lib.hid (HW.out.trans (hB4.mono HW.out.size))
    clear hB4
    go_wp2_with fail
    refine (S1.out _ _ _ _ _ (lines_of_own R1.out).1 R2.out).mono ?_
    rintro e w5 ⟨rfl, hB5⟩
    have R1 := Lib.hid (own_below R1.out hB5 (Nat.le_refl _))
    have HW := Lib.hid (HW.out.trans (hB5.mono HW.out.size))
    clear hB5 R2 C1 C2 C3 C4 S1
    generalize lc q = cs at R1
    generalize q.length = n at R1 hdl
    go_wp2_with fail
    go_loopw [10] (fun s10 wr => ∃ (k : Nat) (cs : List Value), k ≤ n ∧ s10 = .int .i64 k ∧ wr.ownsRow wc.heap.size 40 4 (.slice a1 n c1) n cs ∧ Below wc.heap.size wc wr) (fun s10 _ => n - (intOf s10).toNat)
    case atStart => exact ⟨0, cs, Nat.zero_le _, rfl, R1.out, HW.out⟩
    case round =>
      clear R1 HW
      obtain ⟨k, cs, hk, rfl, hO, hB⟩ := hrel
      by_cases hlt : k < n
      · obtain ⟨g, rfl⟩ := own_form hO (by omega)
        obtain ⟨v0, hv0⟩ := get_of_lt (show k * 4 < cs.length by have := hO.1; omega)
        have m1 := own_cell hO hv0
        have m2 := own_free hO (k * 4)
        have HO2 := Lib.hid (own_setCell hO (k * 4) (.int .i64 (-1)))
        have HB2 := Lib.hid (hB.setCell (p := ⟨g, k * 4, none⟩) (own_base' hO) (.int .i64 (-1)))
        clear hO hB hv0
        go_wp2_with fail
        go_roundw
        case rel => exact ⟨k + 1, _, by omega, by go_num, HO2.out, HB2.out⟩
        case measure => simp [intOf]; omega
      · obtain rfl : k = n := by omega
        have HW := Lib.hid hB
        clear hO hB
        go_wp2_with fail
        refine (S2.out _ _ _ _ _ (HO0.out.below HW.out (Nat.le_refl _)) (HP.out.below (HB0.out.trans (HW.out.mono HB0.out.size)) (Nat.le_refl _))).mono ?_
        rintro e w6 ⟨rfl, hB6⟩
        have HB6 := Lib.hid ((HB0.out.trans (HW.out.mono HB0.out.size)).trans (hB6.mono (HB0.out.trans (HW.out.mono HB0.out.size)).size))
        clear hB6
        go_wp2_with fail
        refine (HK.out _).mono ?_
        rintro e w9 ⟨rfl, hB⟩
        go_wp2_with fail
        go_ret
        exact ⟨rfl, HB6.out.trans (hB.mono HB6.out.size)⟩

end Go.Proofs.Ytigaklppdlknkaa
