/- The order of sets, and sets by their bits, in the document's words: before, subset: contracts. -/
import Derived.Test.YtmigkbimdjiigaaSuT
import Derived.Test.YtmigkbimdjiigaaSvD
set_option linter.unusedVariables false
set_option linter.unusedSimpArgs false
namespace Tinker
theorem nums_flt {S n : Nat} (hn : n ≤ 10) (h : S < 2 ^ n) : fltL (fun i => S.testBit i) n = numsK S := by
  refine pair_unique (filt_pair _ _) (numsK_pair _) fun x => ?_
  rw [numsK_mem]
  constructor
  · intro hx
    obtain ⟨i, rfl, h1, h2⟩ := fltL_mem.1 hx
    exact ⟨i, rfl, by omega, h2⟩
  · rintro ⟨i, rfl, h1, h2⟩
    refine fltL_mem.2 ⟨i, rfl, ?_, h2⟩
    rcases Nat.lt_or_ge i n with h3 | h3
    · exact h3
    · rw [Nat.testBit_lt_two_pow (Nat.lt_of_lt_of_le h (Nat.pow_le_pow_right (by omega) h3))] at h2
      cases h2
set_option maxRecDepth 100000 in
theorem shr_bitK : ∀ m, m < 1024 → ∀ n, n < 10 → ((m / 2 ^ n) &&& 1 == 1) = m.testBit n := by decide +kernel
theorem two_lt {S n : Nat} (hn : n ≤ 10) (h : S < 2 ^ n) : S < 1024 := by
  have : 2 ^ n ≤ 2 ^ 10 := Nat.pow_le_pow_right (by omega) hn
  omega
end Tinker
namespace Go.Proofs.Ytmigkbimdjiigaa
open Go.RowKit Tinker

theorem powi8 (n : Nat) : ((2 : Int) ^ n) = ((2 ^ n : Nat) : Int) := by simp
theorem bit_and8 {s k : Nat} (hs : s < 1024) : bits BinOp.and IntKind.i64 ((s : Int) / 2 ^ k) 1 = (s : Int) / 2 ^ k % 2 := by
  have h5 : ((s : Int) / 2 ^ k) = ((s / 2 ^ k : Nat) : Int) := by rw [powi8]; exact (Int.natCast_ediv s (2 ^ k)).symm
  rw [h5, show (1 : Int) = ((1 : Nat) : Int) from rfl, bits_andKi (b := 1) (Nat.lt_of_le_of_lt (Nat.div_le_self _ _) hs) (by omega), Nat.and_one_is_mod]; rfl
theorem bit_one8 {s k : Nat} (hs : s < 1024) (hk : k < 10) : ((s : Int) / 2 ^ k % 2 == 1) = s.testBit k := by
  have h5 : ((s : Int) / 2 ^ k) = ((s / 2 ^ k : Nat) : Int) := by rw [powi8]; exact (Int.natCast_ediv s (2 ^ k)).symm
  rw [← shr_bitK s hs k hk, Nat.and_one_is_mod, h5, Bool.eq_iff_iff, beq_iff_eq, beq_iff_eq]; omega
theorem drop_at8 {l : List Int} {k : Nat} {x : Int} (h : l[k]? = some x) : l.drop k = x :: l.drop (k + 1) := by
  obtain ⟨hk, rfl⟩ := List.getElem?_eq_some_iff.1 h
  exact List.drop_eq_getElem_cons hk
theorem befB_same8 {a b : List Int} {k : Nat} {x : Int} (h1 : a[k]? = some x) (h2 : b[k]? = some x) : befB (a.drop k) (b.drop k) = befB (a.drop (k + 1)) (b.drop (k + 1)) := by
  rw [drop_at8 h1, drop_at8 h2, befB, if_pos rfl]
theorem befB_diff8 {a b : List Int} {k : Nat} {x y : Int} (h1 : a[k]? = some x) (h2 : b[k]? = some y) (hne : x ≠ y) : befB (a.drop k) (b.drop k) = decide (x < y) := by
  rw [drop_at8 h1, drop_at8 h2, befB, if_neg hne]
theorem befB_end8 {a b : List Int} {k : Nat} (h : a.length ≤ k ∨ b.length ≤ k) (ha : k ≤ a.length) (hb : k ≤ b.length) : befB (a.drop k) (b.drop k) = decide (a.length < b.length) := by
  by_cases h1 : a.length ≤ k
  · rw [List.drop_of_length_le h1]
    by_cases h2 : b.length ≤ k
    · rw [List.drop_of_length_le h2, befB]
      simp; omega
    · obtain ⟨y, hy⟩ := get_of_lt (show k < b.length by omega)
      rw [drop_at8 hy, befB]
      simp; omega
  · have h2 : b.length ≤ k := by omega
    rw [List.drop_of_length_le h2]
    obtain ⟨x, hx⟩ := get_of_lt (show k < a.length by omega)
    rw [drop_at8 hx, befB]
    simp; omega

set_option maxRecDepth 100000 in
set_option maxHeartbeats 2000000 in
theorem before8_any (a b : Option Addr) (ca cb : Nat) (s t : List Int) (w : World) (h1 : IntsAt w a s) (h2 : IntsAt w b t) (hm : s.length ≤ 1000) (hm2 : t.length ≤ 1000) :
    Calls Try.prog 87 #[.slice a s.length ca, .slice b t.length cb] w fun e w' => e = .returned (.bool (befB s t)) ∧ Below w.heap.size w w' := by
  go_enter Try.func87, Try.ntmps87
  go_wp2_with fail
  go_loopw [5] (fun s5 wr => ∃ k : Nat, k ≤ s.length ∧ k ≤ t.length ∧ s5 = .int .i64 k ∧ befB (s.drop k) (t.drop k) = befB s t ∧ Below w.heap.size w wr) (fun s5 _ => s.length - (intOf s5).toNat)
  case atStart => exact ⟨0, Nat.zero_le _, Nat.zero_le _, rfl, rfl, Below.refl _ _⟩
  case round =>
    obtain ⟨k, hk1, hk2, rfl, hbe, hB⟩ := hrel
    have HB := Lib.hid hB
    by_cases hlt : k < s.length
    · by_cases hlt2 : k < t.length
      · obtain ⟨b1, o1, x, rfl, hlb1, hx, x0⟩ := (h1.below hB (Nat.le_refl _)).at_ hlt
        obtain ⟨b2, o2, y, rfl, hlb2, hy, y0⟩ := (h2.below hB (Nat.le_refl _)).at_ hlt2
        by_cases hxy : x = y
        · subst hxy
          have HE := Lib.hid ((befB_same8 hx hy).symm.trans hbe)
          have hxx : (x != x) = false := by simp
          clear hx hy h1 h2 hbe hB
          go_wp2_with fail
          go_quiet (fail)
          go_wp2_with fail
          go_roundw
          case rel => exact ⟨k + 1, by omega, by omega, by go_num, HE.out, HB.out.trans (Below.mono ⟨rfl, rfl, rfl, Nat.le_refl _, fun _ _ => rfl⟩ HB.out.size)⟩
          case measure => simp [intOf]; omega
        · have HE := Lib.hid ((befB_diff8 hx hy hxy).symm.trans hbe)
          have hxx : (x != y) = true := by simpa using hxy
          clear hx hy h1 h2 hbe hB hxy
          go_wp2_with fail
          go_quiet (fail)
          go_wp2_with fail
          go_quiet (fail)
          go_wp2_with fail
          go_ret
          exact ⟨ret_bool HE.out, HB.out.trans (Below.mono ⟨rfl, rfl, rfl, Nat.le_refl _, fun _ _ => rfl⟩ HB.out.size)⟩
      · have HE := Lib.hid ((befB_end8 (.inr (by omega)) hk1 hk2).symm.trans hbe)
        have hd : decide ((k : Int) < (t.length : Int)) = false := by simp; omega
        clear hbe hB h1 h2
        go_wp2_with fail
        go_ret
        exact ⟨ret_bool (by rw [← HE.out]), HB.out⟩
    · have HE := Lib.hid ((befB_end8 (.inl (by omega)) hk1 hk2).symm.trans hbe)
      have hd : decide ((k : Int) < (s.length : Int)) = false := by simp; omega
      clear hbe hB h1 h2
      go_wp2_with fail
      go_ret
      exact ⟨ret_bool (by rw [← HE.out]), HB.out⟩


set_option maxRecDepth 100000 in
set_option maxHeartbeats 1000000 in
theorem subset8_any (S n : Nat) (hn : n ≤ 10) (hS : S < 2 ^ n) (w : World) :
    Calls Try.prog 85 #[.int .i64 S, .int .i64 n] w (GivesInts (numsK S) w) := by
  obtain ⟨i0, hi, hz0, hz1, hz2⟩ := info_parts info_int
  rw [← nums_flt hn hS]
  have hS2 := two_lt hn hS
  have HS := Lib.hid hS2
  clear hS
  go_enter Try.func85, Try.ntmps85
  go_wp2_with fail
  go_loopw [5, 6] (fun s5 s6 wr => ∃ k : Nat, k ≤ n ∧ s6 = .int .i64 k ∧ wr.ownsRow w.heap.size 3 1 s5 (fltL (fun i => S.testBit i) k).length ((fltL (fun i => S.testBit i) k).map (Value.int .i64)) ∧ Below w.heap.size w wr) (fun _ s6 _ => n - (intOf s6).toNat)
  case atStart => exact ⟨0, Nat.zero_le _, rfl, World.ownsRow_nil _ _ _ _, Below.refl _ _⟩
  case round =>
    obtain ⟨k, hk, rfl, hown, hB⟩ := hrel
    by_cases hlt : k < n
    · have h4 : min k 64 = k := by omega
      have h6 := bit_and8 (k := k) HS.out
      have h7 := bit_one8 HS.out (show k < 10 by omega)
      cases hb : S.testBit k
      · rw [hb] at h7
        have hE := fltL_no (p := fun i => S.testBit i) hb
        have HO := Lib.hid hown
        have HE := Lib.hid hE
        have HB := Lib.hid hB
        clear hown hb hE hB
        go_wp2_with fail
        go_roundw
        case rel => exact ⟨k + 1, by omega, by go_num, by rw [HE.out]; exact HO.out, HB.out⟩
        case measure => simp [intOf]; omega
      · rw [hb] at h7
        have HE := Lib.hid (fltL_yes (p := fun i => S.testBit i) hb)
        have hl := fltL_len (fun i => S.testBit i) k
        obtain ⟨av, cv, rfl⟩ := own_slice hown
        clear hb
        go_wp2_with (at_builtin; refine wpList_append_own _ rfl (.tmp 17) (.tmp 19) 23 rfl w.heap.size 3 i0 (.int .i64 0) 1 8 Try.underlying23 hi hz0 hz1 hz2 rfl (by decide) _ _ _ rfl (hown.alloc _) ⟨wr.heap.size, 0, none⟩ 1 1 [.int .i64 k] rfl rfl ?c1 ?c2 ?c3 ?c4 ?c5 ?_)
        case c1 => exact cell_one_new _ _ _
        case c2 => simp [Value.oneCell']
        case c3 => unfold maxLen; omega
        case c4 => omega
        case c5 => have := hB.size; simp; omega
        intro v' w1 hown' hgrow _
        obtain ⟨ho1, hB1⟩ := own_push8 hown hB hown' hgrow HE.out
        have HO := Lib.hid ho1
        have HB := Lib.hid hB1
        clear hown hown' hgrow ho1 hB1 hB
        go_wp2_with fail
        go_roundw
        case rel => exact ⟨k + 1, by omega, by go_num, HO.out, HB.out⟩
        case measure => simp [intOf]; omega
    · obtain rfl : k = n := by omega
      have HO := Lib.hid hown
      clear hown
      go_wp2_with fail
      go_ret
      exact givesInts_of rfl HO.out hB

end Go.Proofs.Ytmigkbimdjiigaa
