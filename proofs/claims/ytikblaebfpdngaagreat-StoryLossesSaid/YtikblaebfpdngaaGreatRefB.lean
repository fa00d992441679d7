/- Several texts in one. -/
import Derived.Test.YtikblaebfpdngaaGreatLineC
/- Validate, ValidateState, asked, Cut, value of the document's answers: contracts. -/
set_option linter.unusedVariables false
set_option linter.unusedSimpArgs false
namespace Go.Proofs.YtikblaebfpdngaaGreat
open Go.RowKit Tinker

set_option maxHeartbeats 400000 in
theorem rValidate_any (a : Option Addr) (cap : Nat) (ps : List L) (w : World) (hp : LinesAt w a ps) :
    Calls Tryz.prog 76 #[.slice a ps.length cap] w fun e w' => e = .returned (.int .i64 (vp ps)) ∧ Below w.heap.size w w' := by
  by_cases h8 : ps.length ≤ 8
  · go_enter Tryz.func76, Tryz.ntmps76
    go_wp2_with fail
    go_loopw [3] (fun i wr => ∃ k : Nat, k ≤ ps.length ∧ i = .int .i64 k ∧ (ps.take k).all isLn = true ∧ Below w.heap.size w wr) (fun i _ => ps.length - (intOf i).toNat)
    case atStart => exact ⟨0, Nat.zero_le _, rfl, by simp, Below.refl _ _⟩
    case round =>
      obtain ⟨k, hk, rfl, hall, hB⟩ := hrel
      have HA := Lib.hid hall
      clear hall
      by_cases hlt : k < ps.length
      · obtain ⟨b, off, l, rfl, hlb, hl, h0, h1, h2, h3⟩ := (hp.below hB (Nat.le_refl _)).at_ hlt
        have HL := Lib.hid hl
        clear hp hl
        go_wp2_with fail
        refine (rIsLine_any l _).mono ?_
        rintro e w1 ⟨rfl, hB1⟩
        have hB2 : Below w.heap.size w w1 := hB.trans (hB1.mono hB.size)
        cases hv : isLn l
        · have HV := Lib.hid hv
          clear hv
          go_wp2
          go_ret
          exact ⟨ret_int (vp_bad h8 (all_not HL.out HV.out)).symm, hB2⟩
        · have HV := Lib.hid hv
          clear hv
          go_wp2
          go_roundw
          case rel => exact ⟨k + 1, by omega, by go_num, all_snoc HA.out HL.out HV.out, hB2⟩
          case measure => simp [intOf]; omega
      · go_wp2
        go_ret
        exact ⟨ret_int (vp_good h8 (all_whole HA.out hlt)).symm, hB⟩
  · rw [vp_large (by omega)]
    have h9 : 8 < ps.length := by omega
    clear h8
    go_enter Tryz.func76, Tryz.ntmps76
    go_wp2
    go_ret
    exact ⟨rfl, Below.refl _ _⟩

set_option maxHeartbeats 400000 in
theorem rValidateState_any (a : Option Addr) (cap : Nat) (zs : List Int) (w : World) (hz : IntsAt w a zs) :
    Calls Tryz.prog 128 #[.slice a zs.length cap] w fun e w' => e = .returned (.int .i64 (vs zs)) ∧ w = w' := by
  by_cases h4 : zs.length = 4
  · have HV := Lib.hid (vs_of h4)
    have H4 := Lib.hid h4
    rw [h4]
    clear h4
    go_enter Tryz.func128, Tryz.ntmps128
    go_wp2_with fail
    go_loop [3] (fun i => ∃ k : Nat, k ≤ 4 ∧ i = .int .i64 k ∧ (zs.take k).all (btw · (-999) 999) = true) (fun i => 4 - (intOf i).toNat)
    case atStart => exact ⟨0, Nat.zero_le _, rfl, by simp⟩
    case round =>
      obtain ⟨k, hk, rfl, hall⟩ := hrel
      have HA := Lib.hid hall
      clear hall
      by_cases hlt : k < 4
      · obtain ⟨b, off, n, rfl, hlb, hl, h0⟩ := hz.at_ (show k < zs.length by rw [H4.out]; exact hlt)
        have HL := Lib.hid hl
        clear hz hl
        cases hv : btw n (-999) 999
        · have HV2 := Lib.hid hv
          have hv2 : btw n (-999) 999 = false := hv
          clear hv
          go_wp2_with (go_at_call 124; refine (within_any _ _ _ _).mono ?_; rintro e w' ⟨rfl, rfl⟩)
          go_ret
          exact ⟨by rw [HV.out, if_neg (by unfold allBtw; rw [all_not HL.out HV2.out]; simp)]; rfl, rfl⟩
        · have HV2 := Lib.hid hv
          go_wp2_with (go_at_call 124; refine (within_any _ _ _ _).mono ?_; rintro e w' ⟨rfl, rfl⟩)
          go_round
          case rel => exact ⟨k + 1, by omega, by go_num, all_snoc HA.out HL.out HV2.out⟩
          case measure => simp [intOf]; omega
      · go_wp2
        go_ret
        exact ⟨by rw [HV.out, if_pos (by unfold allBtw; exact all_whole HA.out (by rw [H4.out]; exact hlt))]; rfl, rfl⟩
  · rw [vs_bad_len h4]
    have h4' : ((zs.length : Int) != 4) = true := by rw [bne_iff_ne]; omega
    have h4'' : ((zs.length : Int) == 4) = false := by rw [beq_eq_false_iff_ne]; omega
    clear h4 hz
    go_enter Tryz.func128, Tryz.ntmps128
    go_wp2
    go_ret
    exact ⟨rfl, rfl⟩

set_option maxHeartbeats 400000 in
theorem asked_any (a b : Option Addr) (ca cb : Nat) (ps : List L) (s : List Int) (w : World) (hp : LinesAt w a ps) (hs : IntsAt w b s) :
    Calls Tryz.prog 166 #[.slice a ps.length ca, .slice b s.length cb] w fun e w' => e = .returned (.int .i64 (vr ps s)) ∧ Below w.heap.size w w' := by
  have HP := Lib.hid (rValidate_any a ca ps w hp)
  have HS := Lib.hid (fun w hs => rValidateState_any b cb s w hs)
  by_cases h : vp ps = 0
  · have HE := Lib.hid (show vr ps s = vs s by unfold vr fe; rw [if_pos h])
    rw [HE.out]
    rw [h] at HP
    clear h
    go_enter Tryz.func166, Tryz.ntmps166
    go_wp2_with fail
    refine HP.out.mono ?_
    rintro e w1 ⟨rfl, hB⟩
    go_wp2_with fail
    refine (HS.out _ (hs.below hB (Nat.le_refl _))).mono ?_
    rintro e w2 ⟨rfl, rfl⟩
    go_wp2_with fail
    go_ret
    exact ⟨rfl, hB⟩
  · have HE := Lib.hid (show vr ps s = vp ps by unfold vr fe; rw [if_neg h])
    rw [HE.out]
    generalize vp ps = c at HP h
    have hz1 : (c != 0) = true := by simpa using h
    have hz2 : (c == 0) = false := by simpa using h
    clear h HE
    go_enter Tryz.func166, Tryz.ntmps166
    go_wp2_with fail
    refine HP.out.mono ?_
    rintro e w1 ⟨rfl, hB⟩
    go_wp2_with fail
    go_ret
    exact ⟨rfl, hB⟩

set_option maxHeartbeats 400000 in
theorem rCut_any (n : Int) (w : World) : Calls Tryz.prog 171 #[.int .i64 n] w fun e w' => e = .returned (.int .i64 (cutv n)) ∧ w = w' := by
  by_cases h1 : n < -999
  · rw [cutv_low (by omega)]
    go_enter Tryz.func171, Tryz.ntmps171
    go_wp2
    go_ret
    exact ⟨rfl, rfl⟩
  · by_cases h2 : 999 < n
    · rw [cutv_high (by omega)]
      go_enter Tryz.func171, Tryz.ntmps171
      go_wp2
      go_ret
      exact ⟨rfl, rfl⟩
    · rw [cutv_mid (by omega) (by omega)]
      go_enter Tryz.func171, Tryz.ntmps171
      go_wp2
      go_ret
      exact ⟨rfl, rfl⟩

end Go.Proofs.YtikblaebfpdngaaGreat

/- value of the document's answers: contract. -/
set_option linter.unusedVariables false
set_option linter.unusedSimpArgs false
namespace Go.Proofs.YtikblaebfpdngaaGreat
open Go.RowKit Tinker

theorem okS_at {w : World} {a : Option Addr} {s : List Int} (hs : IntsAt w a s) (ho : okS s) (n : Int) (h0 : 0 ≤ n) (h3 : n ≤ 3) : ∃ b off, a = some ⟨b, off, none⟩ ∧ b < w.heap.size ∧ ∀ n : Int, 0 ≤ n → n ≤ 3 → w.cell? ⟨b, off + n.toNat, none⟩ = some (.int .i64 (rg s n)) := by
  obtain ⟨b, off, e, hlt, hc⟩ := hs.resolve_left (by rintro rfl; have := ho.1; simp at this)
  refine ⟨b, off, e, hlt, fun n h0 h3 => ?_⟩
  obtain ⟨x, hx⟩ := get_of_lt (show n.toNat < s.length by have := ho.1; omega)
  have : rg s n = x := getD_of_get hx
  rw [this]
  exact hc _ _ hx

set_option maxRecDepth 100000 in
set_option maxHeartbeats 1000000 in
theorem value_1 (td a b x y : Int) (bk off c : Nat) (w : World) (hb : bk < w.heap.size) : Calls Tryz.prog 170 #[.agg #[.int .i64 1, .int .i64 td, .int .i64 a, .int .i64 b], .slice (some ⟨bk, off, none⟩) 4 c] w fun e w' => e = .returned (.int .i64 (a)) ∧ Below w.heap.size w w' := by
  go_enter Tryz.func170, Tryz.ntmps170
  go_wp2_with (go_at_call 171; refine (rCut_any _ _).mono ?_; rintro e w' ⟨rfl, rfl⟩)
  go_ret
  exact ⟨rfl, (Below.refl _ _).alloc (Nat.le_refl _) _⟩

set_option maxRecDepth 100000 in
set_option maxHeartbeats 1000000 in
theorem value_2 (td a b x y : Int) (bk off c : Nat) (w : World) (hb : bk < w.heap.size) (a0 : 0 ≤ a) (a3 : a ≤ 3) (b0 : 0 ≤ b) (b3 : b ≤ 3) (hx : w.cell? ⟨bk, off + a.toNat, none⟩ = some (.int .i64 x)) (hy : w.cell? ⟨bk, off + b.toNat, none⟩ = some (.int .i64 y)) (x0 : -999 ≤ x) (x1 : x ≤ 999) (y0 : -999 ≤ y) (y1 : y ≤ 999) : Calls Tryz.prog 170 #[.agg #[.int .i64 2, .int .i64 td, .int .i64 a, .int .i64 b], .slice (some ⟨bk, off, none⟩) 4 c] w fun e w' => e = .returned (.int .i64 (cutv x)) ∧ Below w.heap.size w w' := by
  have a4 : a < 4 := by omega
  have b4 : b < 4 := by omega
  go_enter Tryz.func170, Tryz.ntmps170
  go_wp2_with (go_at_call 171; refine (rCut_any _ _).mono ?_; rintro e w' ⟨rfl, rfl⟩)
  go_ret
  exact ⟨rfl, (Below.refl _ _).alloc (Nat.le_refl _) _⟩

set_option maxRecDepth 100000 in
set_option maxHeartbeats 1000000 in
theorem value_3 (td a b x y : Int) (bk off c : Nat) (w : World) (hb : bk < w.heap.size) (a0 : 0 ≤ a) (a3 : a ≤ 3) (b0 : 0 ≤ b) (b3 : b ≤ 3) (hx : w.cell? ⟨bk, off + a.toNat, none⟩ = some (.int .i64 x)) (hy : w.cell? ⟨bk, off + b.toNat, none⟩ = some (.int .i64 y)) (x0 : -999 ≤ x) (x1 : x ≤ 999) (y0 : -999 ≤ y) (y1 : y ≤ 999) : Calls Tryz.prog 170 #[.agg #[.int .i64 3, .int .i64 td, .int .i64 a, .int .i64 b], .slice (some ⟨bk, off, none⟩) 4 c] w fun e w' => e = .returned (.int .i64 (cutv (x + y))) ∧ Below w.heap.size w w' := by
  have a4 : a < 4 := by omega
  have b4 : b < 4 := by omega
  go_enter Tryz.func170, Tryz.ntmps170
  go_wp2_with (go_at_call 171; refine (rCut_any _ _).mono ?_; rintro e w' ⟨rfl, rfl⟩)
  go_ret
  exact ⟨rfl, (Below.refl _ _).alloc (Nat.le_refl _) _⟩

set_option maxRecDepth 100000 in
set_option maxHeartbeats 1000000 in
theorem value_4 (td a b x y : Int) (bk off c : Nat) (w : World) (hb : bk < w.heap.size) (a0 : 0 ≤ a) (a3 : a ≤ 3) (b0 : 0 ≤ b) (b3 : b ≤ 3) (hx : w.cell? ⟨bk, off + a.toNat, none⟩ = some (.int .i64 x)) (hy : w.cell? ⟨bk, off + b.toNat, none⟩ = some (.int .i64 y)) (x0 : -999 ≤ x) (x1 : x ≤ 999) (y0 : -999 ≤ y) (y1 : y ≤ 999) : Calls Tryz.prog 170 #[.agg #[.int .i64 4, .int .i64 td, .int .i64 a, .int .i64 b], .slice (some ⟨bk, off, none⟩) 4 c] w fun e w' => e = .returned (.int .i64 (cutv (x - y))) ∧ Below w.heap.size w w' := by
  have a4 : a < 4 := by omega
  have b4 : b < 4 := by omega
  go_enter Tryz.func170, Tryz.ntmps170
  go_wp2_with (go_at_call 171; refine (rCut_any _ _).mono ?_; rintro e w' ⟨rfl, rfl⟩)
  go_ret
  exact ⟨rfl, (Below.refl _ _).alloc (Nat.le_refl _) _⟩

set_option maxRecDepth 100000 in
set_option maxHeartbeats 1000000 in
theorem value_5 (td a b x y : Int) (bk off c : Nat) (w : World) (hb : bk < w.heap.size) (a0 : 0 ≤ a) (a3 : a ≤ 3) (b0 : 0 ≤ b) (b3 : b ≤ 3) (hx : w.cell? ⟨bk, off + a.toNat, none⟩ = some (.int .i64 x)) (hy : w.cell? ⟨bk, off + b.toNat, none⟩ = some (.int .i64 y)) (x0 : -999 ≤ x) (x1 : x ≤ 999) (y0 : -999 ≤ y) (y1 : y ≤ 999) : Calls Tryz.prog 170 #[.agg #[.int .i64 5, .int .i64 td, .int .i64 a, .int .i64 b], .slice (some ⟨bk, off, none⟩) 4 c] w fun e w' => e = .returned (.int .i64 (cutv (min x y))) ∧ Below w.heap.size w w' := by
  have a4 : a < 4 := by omega
  have b4 : b < 4 := by omega
  by_cases h : y < x
  · rw [show min x y = y by omega]
    go_enter Tryz.func170, Tryz.ntmps170
    go_wp2_with (go_at_call 171; refine (rCut_any _ _).mono ?_; rintro e w' ⟨rfl, rfl⟩)
    go_ret
    exact ⟨rfl, (Below.refl _ _).alloc (Nat.le_refl _) _⟩
  · rw [show min x y = x by omega]
    go_enter Tryz.func170, Tryz.ntmps170
    go_wp2_with (go_at_call 171; refine (rCut_any _ _).mono ?_; rintro e w' ⟨rfl, rfl⟩)
    go_ret
    exact ⟨rfl, (Below.refl _ _).alloc (Nat.le_refl _) _⟩

set_option maxRecDepth 100000 in
set_option maxHeartbeats 1000000 in
theorem value_6 (td a b x y : Int) (bk off c : Nat) (w : World) (hb : bk < w.heap.size) (a0 : 0 ≤ a) (a3 : a ≤ 3) (b0 : 0 ≤ b) (b3 : b ≤ 3) (hx : w.cell? ⟨bk, off + a.toNat, none⟩ = some (.int .i64 x)) (hy : w.cell? ⟨bk, off + b.toNat, none⟩ = some (.int .i64 y)) (x0 : -999 ≤ x) (x1 : x ≤ 999) (y0 : -999 ≤ y) (y1 : y ≤ 999) : Calls Tryz.prog 170 #[.agg #[.int .i64 6, .int .i64 td, .int .i64 a, .int .i64 b], .slice (some ⟨bk, off, none⟩) 4 c] w fun e w' => e = .returned (.int .i64 (cutv (max x y))) ∧ Below w.heap.size w w' := by
  have a4 : a < 4 := by omega
  have b4 : b < 4 := by omega
  by_cases h : x < y
  · rw [show max x y = y by omega]
    go_enter Tryz.func170, Tryz.ntmps170
    go_wp2_with (go_at_call 171; refine (rCut_any _ _).mono ?_; rintro e w' ⟨rfl, rfl⟩)
    go_ret
    exact ⟨rfl, (Below.refl _ _).alloc (Nat.le_refl _) _⟩
  · rw [show max x y = x by omega]
    go_enter Tryz.func170, Tryz.ntmps170
    go_wp2_with (go_at_call 171; refine (rCut_any _ _).mono ?_; rintro e w' ⟨rfl, rfl⟩)
    go_ret
    exact ⟨rfl, (Below.refl _ _).alloc (Nat.le_refl _) _⟩

theorem value_any (l : L) (s : List Int) (a : Option Addr) (c : Nat) (w : World) (hl : isLn l = true) (hw : Tinker.wr l = true) (hs : IntsAt w a s) (ho : okS s) :
    Calls Tryz.prog 170 #[lv l, .slice a 4 c] w fun e w' => e = .returned (.int .i64 (cutv (Tinker.valOf l s))) ∧ Below w.heap.size w w' := by
  obtain ⟨bk, off, rfl, hb, hc⟩ := okS_at hs ho 0 (by omega) (by omega)
  have h7 := isLn_op hl
  have ha := isLn_a hl
  have hb' := isLn_b hl
  obtain ⟨op, td, A, B⟩ := l
  unfold lv
  simp only at h7 ha hb' ⊢
  have hw' : op ≠ 0 ∧ op ≠ 7 := by simpa [Tinker.wr] using hw
  have h : op = 1 ∨ op = 2 ∨ op = 3 ∨ op = 4 ∨ op = 5 ∨ op = 6 := by omega
  have bd := fun n => okS_rg ho n
  rcases h with rfl | rfl | rfl | rfl | rfl | rfl
  · have hA : -9 ≤ A ∧ A ≤ 9 := by
      have h1 := isLn_1 td A B
      rw [hl] at h1
      have h2 := h1.symm
      simp only [Bool.and_eq_true] at h2
      exact btw_true.1 h2.2.1
    rw [show cutv (Tinker.valOf ⟨1, td, A, B⟩ s) = A by simp [Tinker.valOf]; exact cutv_mid (by omega) (by omega)]
    exact value_1 td A B 0 0 bk off c w hb
  · have hB : B = 0 := by
      have h1 := isLn_2 td A B
      rw [hl] at h1
      have h2 := h1.symm
      simp only [Bool.and_eq_true, beq_iff_eq] at h2
      exact h2.2.2
    obtain ⟨a0, a3⟩ := ha (by omega)
    have v := value_2 td A B (rg s A) (rg s B) bk off c w hb a0 a3 (by omega) (by omega) (hc A a0 a3) (hc B (by omega) (by omega)) (bd _).1 (bd _).2 (bd _).1 (bd _).2
    exact v
  · obtain ⟨a0, a3⟩ := ha (by omega)
    obtain ⟨b0, b3⟩ := hb' (by omega)
    have v := value_3 td A B (rg s A) (rg s B) bk off c w hb a0 a3 b0 b3 (hc A a0 a3) (hc B b0 b3) (bd _).1 (bd _).2 (bd _).1 (bd _).2
    exact v
  · obtain ⟨a0, a3⟩ := ha (by omega)
    obtain ⟨b0, b3⟩ := hb' (by omega)
    have v := value_4 td A B (rg s A) (rg s B) bk off c w hb a0 a3 b0 b3 (hc A a0 a3) (hc B b0 b3) (bd _).1 (bd _).2 (bd _).1 (bd _).2
    exact v
  · obtain ⟨a0, a3⟩ := ha (by omega)
    obtain ⟨b0, b3⟩ := hb' (by omega)
    have v := value_5 td A B (rg s A) (rg s B) bk off c w hb a0 a3 b0 b3 (hc A a0 a3) (hc B b0 b3) (bd _).1 (bd _).2 (bd _).1 (bd _).2
    exact v
  · obtain ⟨a0, a3⟩ := ha (by omega)
    obtain ⟨b0, b3⟩ := hb' (by omega)
    have v := value_6 td A B (rg s A) (rg s B) bk off c w hb a0 a3 b0 b3 (hc A a0 a3) (hc B b0 b3) (bd _).1 (bd _).2 (bd _).1 (bd _).2
    exact v

end Go.Proofs.YtikblaebfpdngaaGreat
