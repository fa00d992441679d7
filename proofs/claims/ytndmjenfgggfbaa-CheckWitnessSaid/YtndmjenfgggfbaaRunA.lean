/- firstError, validateRun, stateOf, slices.Clone of numbers: contracts. -/
import Derived.Test.YtndmjenfgggfbaaVal
import Derived.Maps.AppendAt
import Derived.OwnWalk
set_option linter.unusedVariables false
set_option linter.unusedSimpArgs false
namespace Go.Proofs.Ytndmjenfgggfbaa
open Go.RowKit Tinker

/-- The first number of a list that is not 0. -/
def feL : List Int → Int
  | [] => 0
  | x :: r => if x = 0 then feL r else x
theorem feL_two (a b : Int) : feL [a, b] = fe a b := by
  simp only [feL, fe]
  split
  · split <;> simp_all
  · rfl
theorem feL_at : ∀ {l : List Int} {k : Nat} {x : Int}, (l.take k).all (· == 0) = true → l[k]? = some x → x ≠ 0 → feL l = x
  | [], k, x, _, h, _ => by simp at h
  | y :: r, 0, x, _, h, hx => by
    simp only [List.getElem?_cons_zero, Option.some.injEq] at h
    subst h
    rw [feL, if_neg hx]
  | y :: r, k + 1, x, h, hg, hx => by
    simp only [List.take_succ_cons, List.all_cons, Bool.and_eq_true, beq_iff_eq] at h
    rw [feL, if_pos h.1]
    exact feL_at h.2 (by simpa using hg) hx
theorem feL_zero : ∀ {l : List Int}, l.all (· == 0) = true → feL l = 0
  | [], _ => rfl
  | y :: r, h => by
    simp only [List.all_cons, Bool.and_eq_true, beq_iff_eq] at h
    rw [feL, if_pos h.1]
    exact feL_zero h.2

set_option maxHeartbeats 400000 in
theorem firstError_any (a : Option Addr) (cap : Nat) (zs : List Int) (w : World) (hz : IntsAt w a zs) (hm : zs.length ≤ 100) :
    Calls Try.prog 82 #[.slice a zs.length cap] w fun e w' => e = .returned (.int .i64 (feL zs)) ∧ w = w' := by
  go_enter Try.func82, Try.ntmps82
  go_wp2_with fail
  go_loop [7] (fun i => ∃ k : Nat, k ≤ zs.length ∧ i = .int .i64 k ∧ (zs.take k).all (· == 0) = true) (fun i => zs.length - (intOf i).toNat)
  case atStart => exact ⟨0, Nat.zero_le _, rfl, by simp⟩
  case round =>
    obtain ⟨k, hk, rfl, hall⟩ := hrel
    have HA := Lib.hid hall
    clear hall
    by_cases hlt : k < zs.length
    · obtain ⟨b, off, n, rfl, hlb, hl, h0⟩ := hz.at_ hlt
      have HL := Lib.hid hl
      clear hz hl
      by_cases hv : n = 0
      · have HV := Lib.hid hv
        have hv2 : (n == 0) = true := by simpa using hv
        have hv3 : (n != 0) = false := by simpa using hv
        clear hv
        go_wp2
        go_round
        case rel => exact ⟨k + 1, by omega, by go_num, all_snoc HA.out HL.out hv2⟩
        case measure => simp [intOf]; omega
      · have HV := Lib.hid hv
        have hv2 : (n == 0) = false := by simpa using hv
        have hv3 : (n != 0) = true := by simpa using hv
        clear hv
        go_wp2
        go_ret
        exact ⟨ret_int (feL_at HA.out HL.out HV.out).symm, rfl⟩
    · go_wp2
      go_ret
      exact ⟨ret_int (feL_zero (all_whole HA.out hlt)).symm, rfl⟩

theorem ints_two (w : World) (c d : Int) (t : TypeId) : IntsAt (w.alloc (.cells #[.int .i64 c, .int .i64 d] t)) (some ⟨w.heap.size, 0, none⟩) [c, d] := by
  refine .inr ⟨w.heap.size, 0, rfl, by simp, fun j n hj => ?_⟩
  match j, hj with
  | 0, hj => simp at hj; subst hj; exact hp_cell (heap_new w _) (by simp)
  | 1, hj => simp at hj; subst hj; exact hp_cell (heap_new w _) (by simp)
  | j + 2, hj => simp at hj

theorem firstError_two (w : World) (c d : Int) (t : TypeId) :
    Calls Try.prog 82 #[.slice (some ⟨w.heap.size, 0, none⟩) 2 2] (w.alloc (.cells #[.int .i64 c, .int .i64 d] t)) fun e w' => e = .returned (.int .i64 (fe c d)) ∧ w.alloc (.cells #[.int .i64 c, .int .i64 d] t) = w' := by
  rw [← feL_two]
  exact firstError_any _ 2 [c, d] _ (ints_two w c d t) (by simp)

set_option maxHeartbeats 400000 in
theorem validateRun_any (a b : Option Addr) (ca cb : Nat) (ps : List L) (s : List Int) (w : World) (hp : LinesAt w a ps) (hs : IntsAt w b s) (hm : s.length ≤ 9223372036854775806) :
    Calls Try.prog 120 #[.slice a ps.length ca, .slice b s.length cb] w fun e w' => e = .returned (.int .i64 (vr ps s)) ∧ Below w.heap.size w w' := by
  go_enter Try.func120, Try.ntmps120
  go_wp2_with fail
  refine (validate_any a ca ps _ hp).mono ?_
  rintro e w1 ⟨rfl, hB⟩
  go_wp2_with fail
  refine (validateState_any b cb s _ (hs.below hB (Nat.le_refl _)) hm).mono ?_
  rintro e w2 ⟨rfl, rfl⟩
  go_wp2_with fail
  refine (firstError_two _ _ _ _).mono ?_
  rintro e w3 ⟨rfl, rfl⟩
  go_wp2
  go_ret
  exact ⟨rfl, hB.alloc hB.size _⟩

theorem info_i4 : (Try.prog.info? 107).map (·.size) = some 4 := by kernel_rfl
theorem info_st : (Try.prog.info? 122).map (·.size) = some 4 := by kernel_rfl
theorem info_int : (Try.prog.info? 3).map (fun i => (i.zero, i.size, i.bytes)) = some (some (.int .i64 0), 1, 8) := by kernel_rfl
theorem info_int1 : (Try.prog.info? 3).map (·.size) = some 1 := by kernel_rfl

set_option maxRecDepth 100000 in
set_option maxHeartbeats 400000 in
theorem stateOf_any (a : Option Addr) (ca : Nat) (s : List Int) (w : World) (h4 : s.length = 4) (hs : IntsAt w a s) :
    Calls Try.prog 122 #[.slice a s.length ca] w fun e w' => e = .returned (.agg (iv s)) ∧ Below w.heap.size w w' := by
  obtain ⟨b, off, rfl, hlb, hc⟩ := hs.resolve_left (by rintro rfl; simp at h4)
  have HC := Lib.hid hc
  have H4 := Lib.hid h4
  rw [h4]
  clear hc hs h4
  go_enter Try.func122, Try.ntmps122
  go_wp2_with (refine wpList_copy_splice rfl (.tmp 4) (.tmp 5) 23 23 rfl 3 Try.underlying23 info_int1 (some ⟨w.heap.size + 1, 0, none⟩) (some ⟨b, off, none⟩) 4 4 4 ca rfl rfl (w.heap.size + 1) 0 [.int .i64 0, .int .i64 0, .int .i64 0, .int .i64 0] 122 ?h1 (s.map (Value.int .i64)) ?h2 ?h3 ?h4 ?h5 (w.heap.size + 1) ((w.alloc (.cells #[.int .i64 0, .int .i64 0, .int .i64 0, .int .i64 0] 122)).alloc (.cells #[.int .i64 0, .int .i64 0, .int .i64 0, .int .i64 0] 122)) (Below.refl _ _) (Nat.le_refl _) ?_)
  case h1 => exact hp_new (by simp)
  case h2 => simp [H4.out]
  case h3 => exact fun _ => HC.out
  case h4 => simp [H4.out]
  case h5 => intro v hv; simp only [List.mem_map] at hv; obtain ⟨n, _, rfl⟩ := hv; rfl
  intro w1 hrow hB
  have hB1 : Below w.heap.size w w1 := (((Below.refl _ _).alloc (Nat.le_refl _) _).alloc (by simp) _).trans (hB.mono (by omega))
  have hr1 : Hid (w1.heap[w.heap.size + 1]? = some (.cells (iv s) 122 (0, 0))) := by
    have h := hrow.out
    have e : splice [.int .i64 0, .int .i64 0, .int .i64 0, .int .i64 0] 0 (s.map (Value.int .i64)) = s.map (Value.int .i64) := by
      have := H4.out
      simp [splice, this]
    rw [e] at h
    exact h
  have hr0 : Hid (w1.heap[w.heap.size]? = some (.cells #[.int .i64 0, .int .i64 0, .int .i64 0, .int .i64 0] 122 (0, 0))) := hp_below (hp_alloc (hp_new rfl)) hB (by omega)
  clear hrow hB
  go_wp2_with (first | (refine wpList_load_row rfl 122 (.tmp 3) rfl (w.heap.size + 1) rfl 122 (iv s) (0, 0) _ hr1.out Try.underlying122 rfl (by rw [info_st, iv_size, H4.out]) ?_) | (refine wpList_store_row rfl 122 (.tmp 2) (.tmp 7) rfl w.heap.size (iv s) rfl rfl 122 _ hr0.out (by rw [info_st, iv_size, H4.out]) (by rw [iv_size, H4.out]; rfl) (iv_one _) ?_))
  have K := hp_row_same hr0.out (iv s)
  refine bodyPost_ret (v := .agg (iv s)) ?_ rfl ⟨rfl, below_setRow hB1 (Nat.le_refl _) _⟩
  exact results_cell_row (p := 2) (ty := 122) rfl _ _ w.heap.size 122 _ (0, 0) _ (by simp [Act.put]) K Try.underlying122 rfl (by rw [info_st, iv_size, H4.out])

/-- A slice in memory of the call's own reads as numbers. -/
theorem ints_of_own {w : World} {base : Nat} {e : TypeId} {a : Option Addr} {n c : Nat} {zs : List Int} (h : w.ownsRow base e 1 (.slice a n c) n (zs.map (Value.int .i64))) : IntsAt w a zs ∧ zs.length = n := by
  have hl : zs.length = n := by simpa using h.1
  refine ⟨?_, hl⟩
  rcases h.2 with ⟨he, hn⟩ | ⟨g, cap, cur, he, _, hg, _, _, _, hx⟩
  · left; exact List.eq_nil_of_length_eq_zero (by omega)
  · injection he with ha hn hc
    subst ha
    right
    refine ⟨g, 0, rfl, hp_lt hg, fun j z hj => ?_⟩
    rw [Nat.zero_add]
    refine hp_cell hg ?_
    have h2 : (cur.toList.take (n * 1))[j]? = some (.int .i64 z) := by rw [hx]; simp [hj]
    rw [List.getElem?_take] at h2
    split at h2
    · simpa using h2
    · cases h2

/-- A new slice of numbers. -/
def GivesInts (zs : List Int) (w : World) (e : Ending) (w' : World) : Prop :=
  ∃ a c, e = .returned (.slice a zs.length c) ∧ w'.ownsRow w.heap.size 3 1 (.slice a zs.length c) zs.length (zs.map (Value.int .i64)) ∧ Below w.heap.size w w'

theorem own_slice {w : World} {base n size : Nat} {e : TypeId} {v : Value} {xs : List Value} (h : w.ownsRow base e size v n xs) : ∃ a c, v = .slice a n c := by
  rcases h.2 with ⟨rfl, rfl⟩ | ⟨g, cap, cur, rfl, _⟩
  · exact ⟨_, _, rfl⟩
  · exact ⟨_, _, rfl⟩
theorem givesInts_of {w w1 : World} {v : Value} {s : List Int} {n : Nat} (hn : s.length = n) (h : w1.ownsRow w.heap.size 3 1 v n (s.map (Value.int .i64))) (hB : Below w.heap.size w w1) : GivesInts s w (.returned v) w1 := by
  subst hn
  obtain ⟨a, c, rfl⟩ := own_slice h
  exact ⟨a, c, rfl, h, hB⟩

set_option maxRecDepth 100000 in
set_option maxHeartbeats 400000 in
theorem cloneInts_any (b off n cap : Nat) (s : List Int) (w : World) (hn : s.length = n) (hpos : 0 < n) (hm : n ≤ 1000) (hs : ∀ j z, s[j]? = some z → w.cell? ⟨b, off + j, none⟩ = some (.int .i64 z)) (hb : b < w.heap.size) :
    Calls Try.prog 89 #[.slice (some ⟨b, off, none⟩) n cap] w (GivesInts s w) := by
  obtain ⟨i0, hi, hz0, hz1, hz2⟩ := info_parts info_int
  have HC := Lib.hid hs
  have H4 := Lib.hid hn
  clear hs hn
  have hnil := fun (w : World) => Lib.run_eql_slice_nil (P := Try.prog) w 23 3 (some ⟨b, off, none⟩) n cap 0 0 Try.underlying23
  have hown := World.ownsRow_lit (base := w.heap.size) (e := 3) (size := 1) w #[] 0 (Nat.le_refl _) (by simp [maxLen]) (by simp)
  go_enter Try.func89, Try.ntmps89
  go_wp2_with (at_builtin; (refine wpList_append_own _ rfl (.tmp 5) (.tmp 6) 23 rfl w.heap.size 3 i0 (.int .i64 0) 1 8 Try.underlying23 hi hz0 hz1 hz2 rfl (by decide) _ 0 [] rfl hown ⟨b, off, none⟩ n cap (s.map (Value.int .i64)) rfl ?c1 ?c2 ?c3 ?c4 ?c5 ?c6 ?_))
  case c1 => simp [H4.out]
  case c2 => exact HC.out
  case c3 => exact fun _ _ => rfl
  case c4 => simp [maxLen]; omega
  case c5 => omega
  intro v' w1 hown1 hgrow _
  have hB : Below w.heap.size w w1 := ((Below.refl _ _).alloc (Nat.le_refl _) _).grown hgrow (by simp) (by rintro k hk; simp [Value.ownBlock] at hk; omega)
  have HO := Lib.hid hown1
  clear hown1 hown hgrow
  go_wp2
  go_ret
  exact givesInts_of H4.out HO.out hB

end Go.Proofs.Ytndmjenfgggfbaa
