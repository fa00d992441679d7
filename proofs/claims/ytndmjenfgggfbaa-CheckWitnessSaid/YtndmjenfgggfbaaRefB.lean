/- value of the document's answers: contract. -/
import Derived.Test.YtndmjenfgggfbaaRefA
set_option linter.unusedVariables false
set_option linter.unusedSimpArgs false
namespace Go.Proofs.Ytndmjenfgggfbaa
open Go.RowKit Tinker

theorem okS_at {w : World} {a : Option Addr} {s : List Int} (hs : IntsAt w a s) (ho : okS s) (n : Int) (h0 : 0 ≤ n) (h3 : n ≤ 3) : ∃ b off, a = some ⟨b, off, none⟩ ∧ b < w.heap.size ∧ ∀ n : Int, 0 ≤ n → n ≤ 3 → w.cell? ⟨b, off + n.toNat, none⟩ = some (.int .i64 (rg s n)) := by
  obtain ⟨b, off, e, hlt, hc⟩ := hs.resolve_left (by rintro rfl; have := ho.1; simp at this)
  refine ⟨b, off, e, hlt, fun n h0 h3 => ?_⟩
  obtain ⟨x, hx⟩ := get_of_lt (show n.toNat < s.length by have := ho.1; omega)
  have : rg s n = x := getD_of_get hx
  rw [this]
  exact hc _ _ hx

set_option maxRecDepth 100000 in
set_option maxHeartbeats 1000000 in
theorem value_1 (td a b x y : Int) (bk off c : Nat) (w : World) (hb : bk < w.heap.size) : Calls Try.prog 124 #[.agg #[.int .i64 1, .int .i64 td, .int .i64 a, .int .i64 b], .slice (some ⟨bk, off, none⟩) 4 c] w fun e w' => e = .returned (.int .i64 (a)) ∧ Below w.heap.size w w' := by
  go_enter Try.func124, Try.ntmps124
  go_wp2_with (go_at_call 133; refine (rCut_any _ _).mono ?_; rintro e w' ⟨rfl, rfl⟩)
  go_ret
  exact ⟨rfl, (Below.refl _ _).alloc (Nat.le_refl _) _⟩

set_option maxRecDepth 100000 in
set_option maxHeartbeats 1000000 in
theorem value_2 (td a b x y : Int) (bk off c : Nat) (w : World) (hb : bk < w.heap.size) (a0 : 0 ≤ a) (a3 : a ≤ 3) (b0 : 0 ≤ b) (b3 : b ≤ 3) (hx : w.cell? ⟨bk, off + a.toNat, none⟩ = some (.int .i64 x)) (hy : w.cell? ⟨bk, off + b.toNat, none⟩ = some (.int .i64 y)) (x0 : -999 ≤ x) (x1 : x ≤ 999) (y0 : -999 ≤ y) (y1 : y ≤ 999) : Calls Try.prog 124 #[.agg #[.int .i64 2, .int .i64 td, .int .i64 a, .int .i64 b], .slice (some ⟨bk, off, none⟩) 4 c] w fun e w' => e = .returned (.int .i64 (cutv x)) ∧ Below w.heap.size w w' := by
  have a4 : a < 4 := by omega
  have b4 : b < 4 := by omega
  go_enter Try.func124, Try.ntmps124
  go_wp2_with (go_at_call 133; refine (rCut_any _ _).mono ?_; rintro e w' ⟨rfl, rfl⟩)
  go_ret
  exact ⟨rfl, (Below.refl _ _).alloc (Nat.le_refl _) _⟩

set_option maxRecDepth 100000 in
set_option maxHeartbeats 1000000 in
theorem value_3 (td a b x y : Int) (bk off c : Nat) (w : World) (hb : bk < w.heap.size) (a0 : 0 ≤ a) (a3 : a ≤ 3) (b0 : 0 ≤ b) (b3 : b ≤ 3) (hx : w.cell? ⟨bk, off + a.toNat, none⟩ = some (.int .i64 x)) (hy : w.cell? ⟨bk, off + b.toNat, none⟩ = some (.int .i64 y)) (x0 : -999 ≤ x) (x1 : x ≤ 999) (y0 : -999 ≤ y) (y1 : y ≤ 999) : Calls Try.prog 124 #[.agg #[.int .i64 3, .int .i64 td, .int .i64 a, .int .i64 b], .slice (some ⟨bk, off, none⟩) 4 c] w fun e w' => e = .returned (.int .i64 (cutv (x + y))) ∧ Below w.heap.size w w' := by
  have a4 : a < 4 := by omega
  have b4 : b < 4 := by omega
  go_enter Try.func124, Try.ntmps124
  go_wp2_with (go_at_call 133; refine (rCut_any _ _).mono ?_; rintro e w' ⟨rfl, rfl⟩)
  go_ret
  exact ⟨rfl, (Below.refl _ _).alloc (Nat.le_refl _) _⟩

set_option maxRecDepth 100000 in
set_option maxHeartbeats 1000000 in
theorem value_4 (td a b x y : Int) (bk off c : Nat) (w : World) (hb : bk < w.heap.size) (a0 : 0 ≤ a) (a3 : a ≤ 3) (b0 : 0 ≤ b) (b3 : b ≤ 3) (hx : w.cell? ⟨bk, off + a.toNat, none⟩ = some (.int .i64 x)) (hy : w.cell? ⟨bk, off + b.toNat, none⟩ = some (.int .i64 y)) (x0 : -999 ≤ x) (x1 : x ≤ 999) (y0 : -999 ≤ y) (y1 : y ≤ 999) : Calls Try.prog 124 #[.agg #[.int .i64 4, .int .i64 td, .int .i64 a, .int .i64 b], .slice (some ⟨bk, off, none⟩) 4 c] w fun e w' => e = .returned (.int .i64 (cutv (x - y))) ∧ Below w.heap.size w w' := by
  have a4 : a < 4 := by omega
  have b4 : b < 4 := by omega
  go_enter Try.func124, Try.ntmps124
  go_wp2_with (go_at_call 133; refine (rCut_any _ _).mono ?_; rintro e w' ⟨rfl, rfl⟩)
  go_ret
  exact ⟨rfl, (Below.refl _ _).alloc (Nat.le_refl _) _⟩

set_option maxRecDepth 100000 in
set_option maxHeartbeats 1000000 in
theorem value_5 (td a b x y : Int) (bk off c : Nat) (w : World) (hb : bk < w.heap.size) (a0 : 0 ≤ a) (a3 : a ≤ 3) (b0 : 0 ≤ b) (b3 : b ≤ 3) (hx : w.cell? ⟨bk, off + a.toNat, none⟩ = some (.int .i64 x)) (hy : w.cell? ⟨bk, off + b.toNat, none⟩ = some (.int .i64 y)) (x0 : -999 ≤ x) (x1 : x ≤ 999) (y0 : -999 ≤ y) (y1 : y ≤ 999) : Calls Try.prog 124 #[.agg #[.int .i64 5, .int .i64 td, .int .i64 a, .int .i64 b], .slice (some ⟨bk, off, none⟩) 4 c] w fun e w' => e = .returned (.int .i64 (cutv (min x y))) ∧ Below w.heap.size w w' := by
  have a4 : a < 4 := by omega
  have b4 : b < 4 := by omega
  by_cases h : y < x
  · rw [show min x y = y by omega]
    go_enter Try.func124, Try.ntmps124
    go_wp2_with (go_at_call 133; refine (rCut_any _ _).mono ?_; rintro e w' ⟨rfl, rfl⟩)
    go_ret
    exact ⟨rfl, (Below.refl _ _).alloc (Nat.le_refl _) _⟩
  · rw [show min x y = x by omega]
    go_enter Try.func124, Try.ntmps124
    go_wp2_with (go_at_call 133; refine (rCut_any _ _).mono ?_; rintro e w' ⟨rfl, rfl⟩)
    go_ret
    exact ⟨rfl, (Below.refl _ _).alloc (Nat.le_refl _) _⟩

set_option maxRecDepth 100000 in
set_option maxHeartbeats 1000000 in
theorem value_6 (td a b x y : Int) (bk off c : Nat) (w : World) (hb : bk < w.heap.size) (a0 : 0 ≤ a) (a3 : a ≤ 3) (b0 : 0 ≤ b) (b3 : b ≤ 3) (hx : w.cell? ⟨bk, off + a.toNat, none⟩ = some (.int .i64 x)) (hy : w.cell? ⟨bk, off + b.toNat, none⟩ = some (.int .i64 y)) (x0 : -999 ≤ x) (x1 : x ≤ 999) (y0 : -999 ≤ y) (y1 : y ≤ 999) : Calls Try.prog 124 #[.agg #[.int .i64 6, .int .i64 td, .int .i64 a, .int .i64 b], .slice (some ⟨bk, off, none⟩) 4 c] w fun e w' => e = .returned (.int .i64 (cutv (max x y))) ∧ Below w.heap.size w w' := by
  have a4 : a < 4 := by omega
  have b4 : b < 4 := by omega
  by_cases h : x < y
  · rw [show max x y = y by omega]
    go_enter Try.func124, Try.ntmps124
    go_wp2_with (go_at_call 133; refine (rCut_any _ _).mono ?_; rintro e w' ⟨rfl, rfl⟩)
    go_ret
    exact ⟨rfl, (Below.refl _ _).alloc (Nat.le_refl _) _⟩
  · rw [show max x y = x by omega]
    go_enter Try.func124, Try.ntmps124
    go_wp2_with (go_at_call 133; refine (rCut_any _ _).mono ?_; rintro e w' ⟨rfl, rfl⟩)
    go_ret
    exact ⟨rfl, (Below.refl _ _).alloc (Nat.le_refl _) _⟩

theorem value_any (l : L) (s : List Int) (a : Option Addr) (c : Nat) (w : World) (hl : isLn l = true) (hw : Tinker.wr l = true) (hs : IntsAt w a s) (ho : okS s) :
    Calls Try.prog 124 #[lv l, .slice a 4 c] w fun e w' => e = .returned (.int .i64 (cutv (Tinker.valOf l s))) ∧ Below w.heap.size w w' := by
  obtain ⟨bk, off, rfl, hb, hc⟩ := okS_at hs ho 0 (by omega) (by omega)
  have h7 := isLn_op hl
  have ha := isLn_a hl
  have hb' := isLn_b hl
  obtain ⟨op, td, A, B⟩ := l
  unfold lv
  simp only at h7 ha hb' ⊢
  have hw' : op ≠ 0 ∧ op ≠ 7 := by simpa [Tinker.wr] using hw
  have h : op = 1 ∨ op = 2 ∨ op = 3 ∨ op = 4 ∨ op = 5 ∨ op = 6 := by omega
  have bd := fun n => okS_rg ho n
  rcases h with rfl | rfl | rfl | rfl | rfl | rfl
  · have hA : -9 ≤ A ∧ A ≤ 9 := by
      have h1 := isLn_1 td A B
      rw [hl] at h1
      have h2 := h1.symm
      simp only [Bool.and_eq_true] at h2
      exact btw_true.1 h2.2.1
    rw [show cutv (Tinker.valOf ⟨1, td, A, B⟩ s) = A by simp [Tinker.valOf]; exact cutv_mid (by omega) (by omega)]
    exact value_1 td A B 0 0 bk off c w hb
  · have hB : B = 0 := by
      have h1 := isLn_2 td A B
      rw [hl] at h1
      have h2 := h1.symm
      simp only [Bool.and_eq_true, beq_iff_eq] at h2
      exact h2.2.2
    obtain ⟨a0, a3⟩ := ha (by omega)
    have v := value_2 td A B (rg s A) (rg s B) bk off c w hb a0 a3 (by omega) (by omega) (hc A a0 a3) (hc B (by omega) (by omega)) (bd _).1 (bd _).2 (bd _).1 (bd _).2
    exact v
  · obtain ⟨a0, a3⟩ := ha (by omega)
    obtain ⟨b0, b3⟩ := hb' (by omega)
    have v := value_3 td A B (rg s A) (rg s B) bk off c w hb a0 a3 b0 b3 (hc A a0 a3) (hc B b0 b3) (bd _).1 (bd _).2 (bd _).1 (bd _).2
    exact v
  · obtain ⟨a0, a3⟩ := ha (by omega)
    obtain ⟨b0, b3⟩ := hb' (by omega)
    have v := value_4 td A B (rg s A) (rg s B) bk off c w hb a0 a3 b0 b3 (hc A a0 a3) (hc B b0 b3) (bd _).1 (bd _).2 (bd _).1 (bd _).2
    exact v
  · obtain ⟨a0, a3⟩ := ha (by omega)
    obtain ⟨b0, b3⟩ := hb' (by omega)
    have v := value_5 td A B (rg s A) (rg s B) bk off c w hb a0 a3 b0 b3 (hc A a0 a3) (hc B b0 b3) (bd _).1 (bd _).2 (bd _).1 (bd _).2
    exact v
  · obtain ⟨a0, a3⟩ := ha (by omega)
    obtain ⟨b0, b3⟩ := hb' (by omega)
    have v := value_6 td A B (rg s A) (rg s B) bk off c w hb a0 a3 b0 b3 (hc A a0 a3) (hc B b0 b3) (bd _).1 (bd _).2 (bd _).1 (bd _).2
    exact v

end Go.Proofs.Ytndmjenfgggfbaa
