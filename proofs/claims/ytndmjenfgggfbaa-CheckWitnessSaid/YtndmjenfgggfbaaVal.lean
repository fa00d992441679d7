/- Validate, ValidateState and what they call: contracts. -/
import Derived.Test.YtndmjenfgggfbaaReads
import Derived.Test.YtndmjenfgggfbaaPlain
import Derived.BigQuiet
import Derived.Deep.QuietTactic
set_option linter.unusedVariables false
set_option linter.unusedSimpArgs false
namespace Go.Proofs.Ytndmjenfgggfbaa
open Go.RowKit Tinker

/-- A slice's address leads to these numbers. -/
def IntsAt (w : World) (a : Option Addr) (zs : List Int) : Prop :=
  zs = [] ∨ ∃ b off, a = some ⟨b, off, none⟩ ∧ b < w.heap.size ∧ ∀ j n, zs[j]? = some n → w.cell? ⟨b, off + j, none⟩ = some (.int .i64 n)

/-- A slice's address leads to these lines. -/
def LinesAt (w : World) (a : Option Addr) (ps : List L) : Prop :=
  ps = [] ∨ ∃ b off, a = some ⟨b, off, none⟩ ∧ b < w.heap.size ∧ ∀ j l, ps[j]? = some l →
    w.cell? ⟨b, off + j * 4, none⟩ = some (.int .i64 l.op) ∧ w.cell? ⟨b, off + j * 4 + 1, none⟩ = some (.int .i64 l.to) ∧
    w.cell? ⟨b, off + j * 4 + 2, none⟩ = some (.int .i64 l.a) ∧ w.cell? ⟨b, off + j * 4 + 3, none⟩ = some (.int .i64 l.b)

theorem IntsAt.below {w w' : World} {B : Nat} {a : Option Addr} {zs : List Int} (h : IntsAt w a zs) (hb : Below B w w') (hB : w.heap.size ≤ B) : IntsAt w' a zs := by
  rcases h with h | ⟨b, off, e, hlt, hc⟩
  · exact .inl h
  · exact .inr ⟨b, off, e, Nat.lt_of_lt_of_le hlt hb.size, fun j n hj => (hb.cell (p := ⟨b, off + j, none⟩) (by show b < B; omega)).trans (hc j n hj)⟩
theorem LinesAt.below {w w' : World} {B : Nat} {a : Option Addr} {ps : List L} (h : LinesAt w a ps) (hb : Below B w w') (hB : w.heap.size ≤ B) : LinesAt w' a ps := by
  rcases h with h | ⟨b, off, e, hlt, hc⟩
  · exact .inl h
  · refine .inr ⟨b, off, e, Nat.lt_of_lt_of_le hlt hb.size, fun j l hj => ?_⟩
    obtain ⟨h0, h1, h2, h3⟩ := hc j l hj
    exact ⟨(hb.cell (p := ⟨b, _, none⟩) (by show b < B; omega)).trans h0, (hb.cell (p := ⟨b, _, none⟩) (by show b < B; omega)).trans h1, (hb.cell (p := ⟨b, _, none⟩) (by show b < B; omega)).trans h2, (hb.cell (p := ⟨b, _, none⟩) (by show b < B; omega)).trans h3⟩
theorem IntsAt.at_ {w : World} {a : Option Addr} {zs : List Int} (h : IntsAt w a zs) {k : Nat} (hk : k < zs.length) : ∃ b off n, a = some ⟨b, off, none⟩ ∧ b < w.heap.size ∧ zs[k]? = some n ∧ w.cell? ⟨b, off + k, none⟩ = some (.int .i64 n) := by
  obtain ⟨b, off, e, hlb, hc⟩ := h.resolve_left (by rintro rfl; simp at hk)
  obtain ⟨n, hn⟩ := get_of_lt hk
  exact ⟨b, off, n, e, hlb, hn, hc k n hn⟩
theorem LinesAt.at_ {w : World} {a : Option Addr} {ps : List L} (h : LinesAt w a ps) {k : Nat} (hk : k < ps.length) : ∃ b off l, a = some ⟨b, off, none⟩ ∧ b < w.heap.size ∧ ps[k]? = some l ∧
    w.cell? ⟨b, off + k * 4, none⟩ = some (.int .i64 l.op) ∧ w.cell? ⟨b, off + k * 4 + 1, none⟩ = some (.int .i64 l.to) ∧
    w.cell? ⟨b, off + k * 4 + 2, none⟩ = some (.int .i64 l.a) ∧ w.cell? ⟨b, off + k * 4 + 3, none⟩ = some (.int .i64 l.b) := by
  obtain ⟨b, off, e, hlb, hc⟩ := h.resolve_left (by rintro rfl; simp at hk)
  obtain ⟨n, hn⟩ := get_of_lt hk
  exact ⟨b, off, n, e, hlb, hn, hc k n hn⟩

set_option maxHeartbeats 400000 in
theorem validate_any (a : Option Addr) (cap : Nat) (ps : List L) (w : World) (hp : LinesAt w a ps) :
    Calls Try.prog 83 #[.slice a ps.length cap] w fun e w' => e = .returned (.int .i64 (vp ps)) ∧ Below w.heap.size w w' := by
  by_cases h8 : ps.length ≤ 8
  · go_enter Try.func83, Try.ntmps83
    go_wp2_with fail
    go_loopw [10] (fun i wr => ∃ k : Nat, k ≤ ps.length ∧ i = .int .i64 k ∧ (ps.take k).all isLn = true ∧ Below w.heap.size w wr) (fun i _ => ps.length - (intOf i).toNat)
    case atStart => exact ⟨0, Nat.zero_le _, rfl, by simp, Below.refl _ _⟩
    case round =>
      obtain ⟨k, hk, rfl, hall, hB⟩ := hrel
      have HA := Lib.hid hall
      clear hall
      by_cases hlt : k < ps.length
      · obtain ⟨b, off, l, rfl, hlb, hl, h0, h1, h2, h3⟩ := (hp.below hB (Nat.le_refl _)).at_ hlt
        have HL := Lib.hid hl
        clear hp hl
        go_wp2_with fail
        refine (isLine_any l _).mono ?_
        rintro e w1 ⟨rfl, hB1⟩
        have hB2 : Below w.heap.size w w1 := (hB.alloc hB.size _).trans (hB1.mono (by have := hB.size; simp; omega))
        cases hv : isLn l
        · have HV := Lib.hid hv
          clear hv
          go_wp2
          go_ret
          exact ⟨ret_int (vp_bad h8 (all_not HL.out HV.out)).symm, hB2⟩
        · have HV := Lib.hid hv
          clear hv
          go_wp2
          go_roundw
          case rel => exact ⟨k + 1, by omega, by go_num, all_snoc HA.out HL.out HV.out, hB2⟩
          case measure => simp [intOf]; omega
      · go_wp2
        go_ret
        exact ⟨ret_int (vp_good h8 (all_whole HA.out hlt)).symm, hB⟩
  · rw [vp_large (by omega)]
    have h9 : 8 < ps.length := by omega
    clear h8
    go_enter Try.func83, Try.ntmps83
    go_wp2
    go_ret
    exact ⟨rfl, Below.refl _ _⟩

set_option maxHeartbeats 400000 in
theorem areBetween_any (a : Option Addr) (cap : Nat) (zs : List Int) (lo hi : Int) (w : World) (hz : IntsAt w a zs) (hm : zs.length ≤ 9223372036854775806) :
    Calls Try.prog 115 #[.slice a zs.length cap, .int .i64 lo, .int .i64 hi] w fun e w' => e = .returned (.bool (allBtw zs lo hi)) ∧ w = w' := by
  go_enter Try.func115, Try.ntmps115
  go_wp2_with fail
  go_loop [11] (fun i => ∃ k : Nat, k ≤ zs.length ∧ i = .int .i64 k ∧ (zs.take k).all (btw · lo hi) = true) (fun i => zs.length - (intOf i).toNat)
  case atStart => exact ⟨0, Nat.zero_le _, rfl, by simp⟩
  case round =>
    obtain ⟨k, hk, rfl, hall⟩ := hrel
    have HA := Lib.hid hall
    clear hall
    by_cases hlt : k < zs.length
    · obtain ⟨b, off, n, rfl, hlb, hl, h0⟩ := hz.at_ hlt
      have HL := Lib.hid hl
      clear hz hl
      cases hv : btw n lo hi
      · have HV := Lib.hid hv
        have hv2 : btw n lo hi = false := hv
        clear hv
        go_wp2_with (go_at_call 116; refine (isBetween_any _ _ _ _).mono ?_; rintro e w' ⟨rfl, rfl⟩)
        go_ret
        exact ⟨ret_bool (by unfold allBtw; exact (all_not HL.out HV.out).symm), rfl⟩
      · have HV := Lib.hid hv
        go_wp2_with (go_at_call 116; refine (isBetween_any _ _ _ _).mono ?_; rintro e w' ⟨rfl, rfl⟩)
        go_round
        case rel => exact ⟨k + 1, by omega, by go_num, all_snoc HA.out HL.out HV.out⟩
        case measure => simp [intOf]; omega
    · go_wp2
      go_ret
      exact ⟨ret_bool (by unfold allBtw; exact (all_whole HA.out hlt).symm), rfl⟩

theorem vs_bad_len {s : List Int} (h : s.length ≠ 4) : vs s = 1 := by unfold vs; rw [if_neg (fun e => h e.1)]
theorem vs_of {s : List Int} (h : s.length = 4) : vs s = if allBtw s (-999) 999 = true then 0 else 1 := by unfold vs; simp [h]

set_option maxHeartbeats 400000 in
theorem validateState_any (a : Option Addr) (cap : Nat) (zs : List Int) (w : World) (hz : IntsAt w a zs) (hm : zs.length ≤ 9223372036854775806) :
    Calls Try.prog 87 #[.slice a zs.length cap] w fun e w' => e = .returned (.int .i64 (vs zs)) ∧ w = w' := by
  by_cases h4 : zs.length = 4
  · have hc := areBetween_any a cap zs (-999) 999 w hz hm
    have hv := vs_of h4
    rw [hv]
    rw [h4] at hc ⊢
    have HC := Lib.hid hc
    clear hc hm hz h4 hv
    cases hb : allBtw zs (-999) 999
    · rw [if_neg (by simp)]
      rw [hb] at HC
      go_enter Try.func87, Try.ntmps87
      go_wp2_with (go_at_call 115; refine (HC.out).mono ?_; rintro e w' ⟨rfl, rfl⟩)
      go_ret
      exact ⟨rfl, rfl⟩
    · rw [if_pos rfl]
      rw [hb] at HC
      go_enter Try.func87, Try.ntmps87
      go_wp2_with (go_at_call 115; refine (HC.out).mono ?_; rintro e w' ⟨rfl, rfl⟩)
      go_ret
      exact ⟨rfl, rfl⟩
  · rw [vs_bad_len h4]
    have h4' : ((zs.length : Int) != 4) = true := by rw [bne_iff_ne]; omega
    have h4'' : ((zs.length : Int) == 4) = false := by rw [beq_eq_false_iff_ne]; omega
    clear h4 hz
    go_enter Try.func87, Try.ntmps87
    go_wp2
    go_ret
    exact ⟨rfl, rfl⟩

end Go.Proofs.Ytndmjenfgggfbaa
