/- Several texts in one. -/
import Derived.Test.YtmigkbimdjiigaaReads
import Derived.Test.YtmigkbimdjiigaaPlain
import Derived.BigQuiet
import Derived.Deep.QuietTactic
import Derived.Maps.AppendAt
import Derived.OwnWalk
/- Validate, ValidateState and what they call: contracts. -/
set_option linter.unusedVariables false
set_option linter.unusedSimpArgs false
namespace Go.Proofs.Ytmigkbimdjiigaa
open Go.RowKit Tinker

/-- A slice's address leads to these numbers. -/
def IntsAt (w : World) (a : Option Addr) (zs : List Int) : Prop :=
  zs = [] ∨ ∃ b off, a = some ⟨b, off, none⟩ ∧ b < w.heap.size ∧ ∀ j n, zs[j]? = some n → w.cell? ⟨b, off + j, none⟩ = some (.int .i64 n)

/-- A slice's address leads to these lines. -/
def LinesAt (w : World) (a : Option Addr) (ps : List L) : Prop :=
  ps = [] ∨ ∃ b off, a = some ⟨b, off, none⟩ ∧ b < w.heap.size ∧ ∀ j l, ps[j]? = some l →
    w.cell? ⟨b, off + j * 4, none⟩ = some (.int .i64 l.op) ∧ w.cell? ⟨b, off + j * 4 + 1, none⟩ = some (.int .i64 l.to) ∧
    w.cell? ⟨b, off + j * 4 + 2, none⟩ = some (.int .i64 l.a) ∧ w.cell? ⟨b, off + j * 4 + 3, none⟩ = some (.int .i64 l.b)

theorem IntsAt.below {w w' : World} {B : Nat} {a : Option Addr} {zs : List Int} (h : IntsAt w a zs) (hb : Below B w w') (hB : w.heap.size ≤ B) : IntsAt w' a zs := by
  rcases h with h | ⟨b, off, e, hlt, hc⟩
  · exact .inl h
  · exact .inr ⟨b, off, e, Nat.lt_of_lt_of_le hlt hb.size, fun j n hj => (hb.cell (p := ⟨b, off + j, none⟩) (by show b < B; omega)).trans (hc j n hj)⟩
theorem LinesAt.below {w w' : World} {B : Nat} {a : Option Addr} {ps : List L} (h : LinesAt w a ps) (hb : Below B w w') (hB : w.heap.size ≤ B) : LinesAt w' a ps := by
  rcases h with h | ⟨b, off, e, hlt, hc⟩
  · exact .inl h
  · refine .inr ⟨b, off, e, Nat.lt_of_lt_of_le hlt hb.size, fun j l hj => ?_⟩
    obtain ⟨h0, h1, h2, h3⟩ := hc j l hj
    exact ⟨(hb.cell (p := ⟨b, _, none⟩) (by show b < B; omega)).trans h0, (hb.cell (p := ⟨b, _, none⟩) (by show b < B; omega)).trans h1, (hb.cell (p := ⟨b, _, none⟩) (by show b < B; omega)).trans h2, (hb.cell (p := ⟨b, _, none⟩) (by show b < B; omega)).trans h3⟩
theorem IntsAt.at_ {w : World} {a : Option Addr} {zs : List Int} (h : IntsAt w a zs) {k : Nat} (hk : k < zs.length) : ∃ b off n, a = some ⟨b, off, none⟩ ∧ b < w.heap.size ∧ zs[k]? = some n ∧ w.cell? ⟨b, off + k, none⟩ = some (.int .i64 n) := by
  obtain ⟨b, off, e, hlb, hc⟩ := h.resolve_left (by rintro rfl; simp at hk)
  obtain ⟨n, hn⟩ := get_of_lt hk
  exact ⟨b, off, n, e, hlb, hn, hc k n hn⟩
theorem LinesAt.at_ {w : World} {a : Option Addr} {ps : List L} (h : LinesAt w a ps) {k : Nat} (hk : k < ps.length) : ∃ b off l, a = some ⟨b, off, none⟩ ∧ b < w.heap.size ∧ ps[k]? = some l ∧
    w.cell? ⟨b, off + k * 4, none⟩ = some (.int .i64 l.op) ∧ w.cell? ⟨b, off + k * 4 + 1, none⟩ = some (.int .i64 l.to) ∧
    w.cell? ⟨b, off + k * 4 + 2, none⟩ = some (.int .i64 l.a) ∧ w.cell? ⟨b, off + k * 4 + 3, none⟩ = some (.int .i64 l.b) := by
  obtain ⟨b, off, e, hlb, hc⟩ := h.resolve_left (by rintro rfl; simp at hk)
  obtain ⟨n, hn⟩ := get_of_lt hk
  exact ⟨b, off, n, e, hlb, hn, hc k n hn⟩

set_option maxHeartbeats 400000 in
theorem areBetween_any (a : Option Addr) (cap : Nat) (zs : List Int) (lo hi : Int) (w : World) (hz : IntsAt w a zs) (hm : zs.length ≤ 9223372036854775806) :
    Calls Try.prog 67 #[.slice a zs.length cap, .int .i64 lo, .int .i64 hi] w fun e w' => e = .returned (.bool (allBtw zs lo hi)) ∧ w = w' := by
  go_enter Try.func67, Try.ntmps67
  go_wp2_with fail
  go_loop [11] (fun i => ∃ k : Nat, k ≤ zs.length ∧ i = .int .i64 k ∧ (zs.take k).all (btw · lo hi) = true) (fun i => zs.length - (intOf i).toNat)
  case atStart => exact ⟨0, Nat.zero_le _, rfl, by simp⟩
  case round =>
    obtain ⟨k, hk, rfl, hall⟩ := hrel
    have HA := Lib.hid hall
    clear hall
    by_cases hlt : k < zs.length
    · obtain ⟨b, off, n, rfl, hlb, hl, h0⟩ := hz.at_ hlt
      have HL := Lib.hid hl
      clear hz hl
      cases hv : btw n lo hi
      · have HV := Lib.hid hv
        have hv2 : btw n lo hi = false := hv
        clear hv
        go_wp2_with (go_at_call 102; refine (isBetween_any _ _ _ _).mono ?_; rintro e w' ⟨rfl, rfl⟩)
        go_ret
        exact ⟨ret_bool (by unfold allBtw; exact (all_not HL.out HV.out).symm), rfl⟩
      · have HV := Lib.hid hv
        go_wp2_with (go_at_call 102; refine (isBetween_any _ _ _ _).mono ?_; rintro e w' ⟨rfl, rfl⟩)
        go_round
        case rel => exact ⟨k + 1, by omega, by go_num, all_snoc HA.out HL.out HV.out⟩
        case measure => simp [intOf]; omega
    · go_wp2
      go_ret
      exact ⟨ret_bool (by unfold allBtw; exact (all_whole HA.out hlt).symm), rfl⟩

theorem vs_bad_len {s : List Int} (h : s.length ≠ 4) : vs s = 1 := by unfold vs; rw [if_neg (fun e => h e.1)]
theorem vs_of {s : List Int} (h : s.length = 4) : vs s = if allBtw s (-999) 999 = true then 0 else 1 := by unfold vs; simp [h]

end Go.Proofs.Ytmigkbimdjiigaa

/- firstError, validateRun, stateOf, slices.Clone of numbers: contracts. -/
set_option linter.unusedVariables false
set_option linter.unusedSimpArgs false
namespace Go.Proofs.Ytmigkbimdjiigaa
open Go.RowKit Tinker

/-- The first number of a list that is not 0. -/
def feL : List Int → Int
  | [] => 0
  | x :: r => if x = 0 then feL r else x
theorem feL_two (a b : Int) : feL [a, b] = fe a b := by
  simp only [feL, fe]
  split
  · split <;> simp_all
  · rfl
theorem feL_at : ∀ {l : List Int} {k : Nat} {x : Int}, (l.take k).all (· == 0) = true → l[k]? = some x → x ≠ 0 → feL l = x
  | [], k, x, _, h, _ => by simp at h
  | y :: r, 0, x, _, h, hx => by
    simp only [List.getElem?_cons_zero, Option.some.injEq] at h
    subst h
    rw [feL, if_neg hx]
  | y :: r, k + 1, x, h, hg, hx => by
    simp only [List.take_succ_cons, List.all_cons, Bool.and_eq_true, beq_iff_eq] at h
    rw [feL, if_pos h.1]
    exact feL_at h.2 (by simpa using hg) hx
theorem feL_zero : ∀ {l : List Int}, l.all (· == 0) = true → feL l = 0
  | [], _ => rfl
  | y :: r, h => by
    simp only [List.all_cons, Bool.and_eq_true, beq_iff_eq] at h
    rw [feL, if_pos h.1]
    exact feL_zero h.2

theorem ints_two (w : World) (c d : Int) (t : TypeId) : IntsAt (w.alloc (.cells #[.int .i64 c, .int .i64 d] t)) (some ⟨w.heap.size, 0, none⟩) [c, d] := by
  refine .inr ⟨w.heap.size, 0, rfl, by simp, fun j n hj => ?_⟩
  match j, hj with
  | 0, hj => simp at hj; subst hj; exact hp_cell (heap_new w _) (by simp)
  | 1, hj => simp at hj; subst hj; exact hp_cell (heap_new w _) (by simp)
  | j + 2, hj => simp at hj

theorem info_int : (Try.prog.info? 3).map (fun i => (i.zero, i.size, i.bytes)) = some (some (.int .i64 0), 1, 8) := by kernel_rfl
theorem info_int1 : (Try.prog.info? 3).map (·.size) = some 1 := by kernel_rfl

/-- A slice in memory of the call's own reads as numbers. -/
theorem ints_of_own {w : World} {base : Nat} {e : TypeId} {a : Option Addr} {n c : Nat} {zs : List Int} (h : w.ownsRow base e 1 (.slice a n c) n (zs.map (Value.int .i64))) : IntsAt w a zs ∧ zs.length = n := by
  have hl : zs.length = n := by simpa using h.1
  refine ⟨?_, hl⟩
  rcases h.2 with ⟨he, hn⟩ | ⟨g, cap, cur, he, _, hg, _, _, _, hx⟩
  · left; exact List.eq_nil_of_length_eq_zero (by omega)
  · injection he with ha hn hc
    subst ha
    right
    refine ⟨g, 0, rfl, hp_lt hg, fun j z hj => ?_⟩
    rw [Nat.zero_add]
    refine hp_cell hg ?_
    have h2 : (cur.toList.take (n * 1))[j]? = some (.int .i64 z) := by rw [hx]; simp [hj]
    rw [List.getElem?_take] at h2
    split at h2
    · simpa using h2
    · cases h2

/-- A new slice of numbers. -/
def GivesInts (zs : List Int) (w : World) (e : Ending) (w' : World) : Prop :=
  ∃ a c, e = .returned (.slice a zs.length c) ∧ w'.ownsRow w.heap.size 3 1 (.slice a zs.length c) zs.length (zs.map (Value.int .i64)) ∧ Below w.heap.size w w'

theorem own_slice {w : World} {base n size : Nat} {e : TypeId} {v : Value} {xs : List Value} (h : w.ownsRow base e size v n xs) : ∃ a c, v = .slice a n c := by
  rcases h.2 with ⟨rfl, rfl⟩ | ⟨g, cap, cur, rfl, _⟩
  · exact ⟨_, _, rfl⟩
  · exact ⟨_, _, rfl⟩
theorem givesInts_of {w w1 : World} {v : Value} {s : List Int} {n : Nat} (hn : s.length = n) (h : w1.ownsRow w.heap.size 3 1 v n (s.map (Value.int .i64))) (hB : Below w.heap.size w w1) : GivesInts s w (.returned v) w1 := by
  subst hn
  obtain ⟨a, c, rfl⟩ := own_slice h
  exact ⟨a, c, rfl, h, hB⟩

set_option maxRecDepth 100000 in
set_option maxHeartbeats 400000 in
theorem cloneInts_any (b off n cap : Nat) (s : List Int) (w : World) (hn : s.length = n) (hpos : 0 < n) (hm : n ≤ 1000) (hs : ∀ j z, s[j]? = some z → w.cell? ⟨b, off + j, none⟩ = some (.int .i64 z)) (hb : b < w.heap.size) :
    Calls Try.prog 121 #[.slice (some ⟨b, off, none⟩) n cap] w (GivesInts s w) := by
  obtain ⟨i0, hi, hz0, hz1, hz2⟩ := info_parts info_int
  have HC := Lib.hid hs
  have H4 := Lib.hid hn
  clear hs hn
  have hnil := fun (w : World) => Lib.run_eql_slice_nil (P := Try.prog) w 23 3 (some ⟨b, off, none⟩) n cap 0 0 Try.underlying23
  have hown := World.ownsRow_lit (base := w.heap.size) (e := 3) (size := 1) w #[] 0 (Nat.le_refl _) (by simp [maxLen]) (by simp)
  go_enter Try.func121, Try.ntmps121
  go_wp2_with (at_builtin; (refine wpList_append_own _ rfl (.tmp 5) (.tmp 6) 23 rfl w.heap.size 3 i0 (.int .i64 0) 1 8 Try.underlying23 hi hz0 hz1 hz2 rfl (by decide) _ 0 [] rfl hown ⟨b, off, none⟩ n cap (s.map (Value.int .i64)) rfl ?c1 ?c2 ?c3 ?c4 ?c5 ?c6 ?_))
  case c1 => simp [H4.out]
  case c2 => exact HC.out
  case c3 => exact fun _ _ => rfl
  case c4 => simp [maxLen]; omega
  case c5 => omega
  intro v' w1 hown1 hgrow _
  have hB : Below w.heap.size w w1 := ((Below.refl _ _).alloc (Nat.le_refl _) _).grown hgrow (by simp) (by rintro k hk; simp [Value.ownBlock] at hk; omega)
  have HO := Lib.hid hown1
  clear hown1 hown hgrow
  go_wp2
  go_ret
  exact givesInts_of H4.out HO.out hB

end Go.Proofs.Ytmigkbimdjiigaa
