/- Several texts in one. -/
import Derived.Test.YtigaklppdlknkaaGreatMskB
import Derived.Test.YtigaklppdlknkaaGreatTabA
/- Leaves of blame: bits of masks: contracts. -/
set_option linter.unusedVariables false
set_option linter.unusedSimpArgs false
namespace Go.Proofs.YtigaklppdlknkaaGreat
open Go.RowKit Tinker

theorem pow8 {n : Nat} (h : n < 8) : 2 ^ n < 256 ∧ 1 ≤ 2 ^ n :=
  ⟨Nat.lt_of_lt_of_le (Nat.pow_lt_pow_right (a := 2) (by omega) h) (by decide), Nat.one_le_two_pow⟩
theorem powi (n : Nat) : ((2 : Int) ^ n) = ((2 ^ n : Nat) : Int) := by simp
theorem wrap_pow {n : Nat} (h : n < 8) : IntKind.u64.wrap (2 ^ n) = ((2 ^ n : Nat) : Int) := by
  have := pow8 h
  have e : ((2 : Int) ^ n) = ((2 ^ n : Nat) : Int) := by simp
  rw [e]; exact IntWalk.u64_in _ (by omega)
theorem wrap_powi {n : Nat} (h : n < 8) : IntKind.i64.wrap (2 ^ n) = ((2 ^ n : Nat) : Int) := by
  have := pow8 h
  have e : ((2 : Int) ^ n) = ((2 ^ n : Nat) : Int) := by simp
  rw [e]; exact IntWalk.i64_in _ (by omega)
theorem bits_and_u {a b : Nat} (ha : a < 256) (hb : b < 256) : bits BinOp.and IntKind.u64 (a : Int) (b : Int) = ((a &&& b : Nat) : Int) := by
  show IntKind.u64.wrap (((BitVec.ofInt 64 (a : Int)) &&& (BitVec.ofInt 64 (b : Int))).toNat : Int) = _
  have : a &&& b ≤ a := Nat.and_le_left
  rw [BitVec.ofInt_natCast, BitVec.ofInt_natCast, BitVec.toNat_and, BitVec.toNat_ofNat, BitVec.toNat_ofNat, Nat.mod_eq_of_lt (by omega), Nat.mod_eq_of_lt (by omega), IntWalk.u64_in _ (by omega)]
theorem bits_and_i {a b : Nat} (ha : a < 256) (hb : b < 256) : bits BinOp.and IntKind.i64 (a : Int) (b : Int) = ((a &&& b : Nat) : Int) := by
  show IntKind.i64.wrap (((BitVec.ofInt 64 (a : Int)) &&& (BitVec.ofInt 64 (b : Int))).toNat : Int) = _
  have : a &&& b ≤ a := Nat.and_le_left
  rw [BitVec.ofInt_natCast, BitVec.ofInt_natCast, BitVec.toNat_and, BitVec.toNat_ofNat, BitVec.toNat_ofNat, Nat.mod_eq_of_lt (by omega), Nat.mod_eq_of_lt (by omega), IntWalk.i64_in _ (by omega)]
theorem or_lt {a b : Nat} (ha : a < 256) (hb : b < 256) : a ||| b < 256 := Nat.or_lt_two_pow (n := 8) ha hb
theorem and_lt8 {a b : Nat} (ha : a < 256) : a &&& b < 256 := Nat.lt_of_le_of_lt Nat.and_le_left ha
theorem bits_or_u {a b : Nat} (ha : a < 256) (hb : b < 256) : bits BinOp.or IntKind.u64 (a : Int) (b : Int) = ((a ||| b : Nat) : Int) := by
  show IntKind.u64.wrap (((BitVec.ofInt 64 (a : Int)) ||| (BitVec.ofInt 64 (b : Int))).toNat : Int) = _
  have := or_lt ha hb
  rw [BitVec.ofInt_natCast, BitVec.ofInt_natCast, BitVec.toNat_or, BitVec.toNat_ofNat, BitVec.toNat_ofNat, Nat.mod_eq_of_lt (by omega), Nat.mod_eq_of_lt (by omega), IntWalk.u64_in _ (by omega)]
theorem bits_or_i {a b : Nat} (ha : a < 256) (hb : b < 256) : bits BinOp.or IntKind.i64 (a : Int) (b : Int) = ((a ||| b : Nat) : Int) := by
  show IntKind.i64.wrap (((BitVec.ofInt 64 (a : Int)) ||| (BitVec.ofInt 64 (b : Int))).toNat : Int) = _
  have := or_lt ha hb
  rw [BitVec.ofInt_natCast, BitVec.ofInt_natCast, BitVec.toNat_or, BitVec.toNat_ofNat, BitVec.toNat_ofNat, Nat.mod_eq_of_lt (by omega), Nat.mod_eq_of_lt (by omega), IntWalk.i64_in _ (by omega)]
/-- What is in one set and not in another one. -/
def subtM (a b : Nat) : Nat := a &&& (18446744073709551615 - b)
theorem bits_not_u {a b : Nat} (ha : a < 256) (hb : b < 256) : bits BinOp.andNot IntKind.u64 (a : Int) (b : Int) = ((subtM a b : Nat) : Int) := by
  show IntKind.u64.wrap (((BitVec.ofInt 64 (a : Int)) &&& ~~~(BitVec.ofInt 64 (b : Int))).toNat : Int) = _
  have : subtM a b ≤ a := Nat.and_le_left
  have e : (((BitVec.ofInt 64 (a : Int)) &&& ~~~(BitVec.ofInt 64 (b : Int))).toNat) = subtM a b := by
    rw [BitVec.ofInt_natCast, BitVec.ofInt_natCast, BitVec.toNat_and, BitVec.toNat_not, BitVec.toNat_ofNat, BitVec.toNat_ofNat, Nat.mod_eq_of_lt (by omega), Nat.mod_eq_of_lt (by omega)]
    unfold subtM
    congr 1
  rw [e, IntWalk.u64_in _ (by omega)]
theorem bits_not_i {a b : Nat} (ha : a < 256) (hb : b < 256) : bits BinOp.andNot IntKind.i64 (a : Int) (b : Int) = ((subtM a b : Nat) : Int) := by
  show IntKind.i64.wrap (((BitVec.ofInt 64 (a : Int)) &&& ~~~(BitVec.ofInt 64 (b : Int))).toNat : Int) = _
  have : subtM a b ≤ a := Nat.and_le_left
  have e : (((BitVec.ofInt 64 (a : Int)) &&& ~~~(BitVec.ofInt 64 (b : Int))).toNat) = subtM a b := by
    rw [BitVec.ofInt_natCast, BitVec.ofInt_natCast, BitVec.toNat_and, BitVec.toNat_not, BitVec.toNat_ofNat, BitVec.toNat_ofNat, Nat.mod_eq_of_lt (by omega), Nat.mod_eq_of_lt (by omega)]
    unfold subtM
    congr 1
  rw [e, IntWalk.i64_in _ (by omega)]
theorem subt_wo {m n : Nat} (hm : m < 256) (hn : n < 8) : subtM m (2 ^ n) = woM m n := wo_not m hm n hn
set_option maxRecDepth 100000 in
theorem subt_sub8 : (List.range 256).all (fun a => (List.range 256).all fun b => (subtM a b == 0) == (a &&& b == a)) = true := by decide +kernel
theorem subt_sub {a b : Nat} (ha : a < 256) (hb : b < 256) : (subtM a b == 0) = (a &&& b == a) := by
  simpa using List.all_eq_true.1 (List.all_eq_true.1 subt_sub8 a (by simpa using ha)) b (by simpa using hb)
theorem natne {a : Nat} : ((a : Int) != 0) = (a != 0) := by
  rw [Bool.eq_iff_iff, bne_iff_ne, bne_iff_ne]; omega
theorem nateq {a : Nat} : ((a : Int) == 0) = (a == 0) := by
  rw [Bool.eq_iff_iff, beq_iff_eq, beq_iff_eq]; omega

set_option maxRecDepth 100000 in
set_option maxHeartbeats 1000000 in
theorem with_any (m n : Nat) (hm : m < 256) (hn : n < 8) (w : World) : Calls Tryz.prog 119 #[.int .u64 m, .int .i64 n] w fun e w' => e = .returned (.int .u64 (m ||| 2 ^ n : Nat)) ∧ w = w' := by
  have h1 := wrap_pow hn
  have h2 : bits BinOp.or IntKind.u64 (m : Int) (2 ^ n) = ((m ||| 2 ^ n : Nat) : Int) := by rw [powi]; exact bits_or_u hm (pow8 hn).1
  go_enter Tryz.func119, Tryz.ntmps119
  go_wp2_with fail
  go_ret
  exact ⟨rfl, rfl⟩
set_option maxRecDepth 100000 in
set_option maxHeartbeats 1000000 in
theorem without_any (m n : Nat) (hm : m < 256) (hn : n < 8) (w : World) : Calls Tryz.prog 192 #[.int .u64 m, .int .i64 n] w fun e w' => e = .returned (.int .u64 (woM m n : Nat)) ∧ w = w' := by
  have h1 := wrap_pow hn
  have h2 : bits BinOp.andNot IntKind.u64 (m : Int) (2 ^ n) = ((woM m n : Nat) : Int) := by rw [powi, ← subt_wo hm hn]; exact bits_not_u hm (pow8 hn).1
  go_enter Tryz.func192, Tryz.ntmps192
  go_wp2_with fail
  go_ret
  exact ⟨rfl, rfl⟩
set_option maxRecDepth 100000 in
set_option maxHeartbeats 1000000 in
theorem has_any (m n : Nat) (hm : m < 256) (hn : n < 8) (w : World) : Calls Tryz.prog 120 #[.int .u64 m, .int .i64 n] w fun e w' => e = .returned (.bool (m.testBit n)) ∧ w = w' := by
  have h1 := wrap_pow hn
  have h2 : bits BinOp.and IntKind.u64 (m : Int) (2 ^ n) = ((m &&& 2 ^ n : Nat) : Int) := by rw [powi]; exact bits_and_u hm (pow8 hn).1
  have h3 := has_bit m hm n hn
  go_enter Tryz.func120, Tryz.ntmps120
  go_wp2_with fail
  go_ret
  exact ⟨ret_bool (natne.trans h3), rfl⟩
set_option maxRecDepth 100000 in
set_option maxHeartbeats 1000000 in
theorem isApart_any (m n : Nat) (hm : m < 256) (hn : n < 256) (w : World) : Calls Tryz.prog 161 #[.int .u64 m, .int .u64 n] w fun e w' => e = .returned (.bool (m &&& n == 0)) ∧ w = w' := by
  have h2 := bits_and_u hm hn
  go_enter Tryz.func161, Tryz.ntmps161
  go_wp2_with fail
  go_ret
  exact ⟨ret_bool nateq, rfl⟩
set_option maxRecDepth 100000 in
set_option maxHeartbeats 1000000 in
theorem isPart_any (m n : Nat) (hm : m < 256) (hn : n < 256) (w : World) : Calls Tryz.prog 156 #[.int .u64 m, .int .u64 n] w fun e w' => e = .returned (.bool (m &&& n == m)) ∧ w = w' := by
  have h2 := bits_not_u hm hn
  go_enter Tryz.func156, Tryz.ntmps156
  go_wp2_with fail
  go_ret
  exact ⟨ret_bool (nateq.trans (subt_sub hm hn)), rfl⟩

end Go.Proofs.YtigaklppdlknkaaGreat

/- Families: valid ones of both, masks of both, what hits: contracts. -/
set_option linter.unusedVariables false
set_option linter.unusedSimpArgs false
namespace Go.Proofs.YtigaklppdlknkaaGreat
open Go.RowKit Tinker

/-- A slice's address leads to these masks. -/
def MskAt (w : World) (a : Option Addr) (ms : List Nat) : Prop :=
  ms = [] ∨ ∃ b off, a = some ⟨b, off, none⟩ ∧ b < w.heap.size ∧ ∀ (j n : Nat), ms[j]? = some n → w.cell? ⟨b, off + j, none⟩ = some (.int .u64 n)
theorem MskAt.below {w w' : World} {B : Nat} {a : Option Addr} {ms : List Nat} (h : MskAt w a ms) (hb : Below B w w') (hB : w.heap.size ≤ B) : MskAt w' a ms := by
  rcases h with h | ⟨b, off, e, hlt, hc⟩
  · exact .inl h
  · exact .inr ⟨b, off, e, Nat.lt_of_lt_of_le hlt hb.size, fun j n hj => (hb.cell (p := ⟨b, off + j, none⟩) (by show b < B; omega)).trans (hc j n hj)⟩
theorem MskAt.at_ {w : World} {a : Option Addr} {ms : List Nat} (h : MskAt w a ms) {k : Nat} (hk : k < ms.length) : ∃ (b off n : Nat), a = some ⟨b, off, none⟩ ∧ b < w.heap.size ∧ ms[k]? = some n ∧ w.cell? ⟨b, off + k, none⟩ = some (.int .u64 n) := by
  obtain ⟨b, off, e, hlb, hc⟩ := h.resolve_left (by rintro rfl; simp at hk)
  obtain ⟨n, hn⟩ := get_of_lt hk
  exact ⟨b, off, n, e, hlb, hn, hc k n hn⟩
/-- Masks as numbers. -/
def ni (ms : List Nat) : List Int := ms.map fun (m : Nat) => (m : Int)
theorem ni_len (ms : List Nat) : (ni ms).length = ms.length := by simp [ni]
theorem ni_get {ms : List Nat} {k : Nat} {n : Int} (h : (ni ms)[k]? = some n) : ∃ m : Nat, n = m ∧ ms[k]? = some m := by
  simp only [ni, List.getElem?_map, Option.map_eq_some_iff] at h
  obtain ⟨m, h1, h2⟩ := h
  exact ⟨m, h2.symm, h1⟩

/-- The error of a family. -/
def vfam (f : List (List Int)) : Int := if 70 < f.length then 3 else if f.all setB = true then 0 else 1
theorem vfam_large {f : List (List Int)} (h : 70 < f.length) : vfam f = 3 := by unfold vfam; rw [if_pos h]
theorem vfam_good {f : List (List Int)} (h : f.length ≤ 70) (h2 : f.all setB = true) : vfam f = 0 := by unfold vfam; rw [if_neg (by omega), if_pos h2]
theorem vfam_bad {f : List (List Int)} (h : f.length ≤ 70) (h2 : f.all setB = false) : vfam f = 1 := by unfold vfam; rw [if_neg (by omega), if_neg (by simp [h2])]
theorem vfam_ok {f : List (List Int)} (h : vfam f = 0) : f.length ≤ 70 ∧ ∀ s ∈ f, setB s = true := by
  unfold vfam at h
  split at h
  · contradiction
  · split at h
    · rename_i h1 h2
      exact ⟨by omega, fun s hs => List.all_eq_true.1 h2 s hs⟩
    · contradiction
/-- The masks of a family. -/
def fmM (f : List (List Int)) : List Nat := f.map maskM
theorem fmM_len (f : List (List Int)) : (fmM f).length = f.length := by simp [fmM]
theorem fmM_lt {f : List (List Int)} (h : ∀ s ∈ f, setB s = true) : ∀ m ∈ fmM f, m < 256 := fun m hm => by
  obtain ⟨s, hs, rfl⟩ := List.mem_map.1 hm
  exact maskM_lt (h s hs)
theorem setB_len {s : List Int} (h : setB s = true) : s.length ≤ 8 := by
  have e := nums_maskM h
  have : (numsM (maskM s)).length ≤ 8 := by
    unfold numsM
    rw [List.length_map]
    exact Nat.le_trans (List.length_filter_le _ _) (by simp)
  rw [e] at this
  exact this
theorem numsM_len (m : Nat) : (numsM m).length ≤ 8 := by
  unfold numsM
  rw [List.length_map]
  exact Nat.le_trans (List.length_filter_le _ _) (by simp)

set_option maxRecDepth 100000 in
set_option maxHeartbeats 1000000 in
theorem isValid_any (a : Option Addr) (cap : Nat) (s : List Int) (w : World) (hz : IntsAt w a s) (hm : s.length ≤ 1000) :
    Calls Tryz.prog 103 #[.slice a s.length cap] w fun e w' => e = .returned (.bool (setB s)) ∧ Below w.heap.size w w' := by
  have H1 := Lib.hid (kIsSet_any a cap s w hz hm)
  have H2 := Lib.hid (fun w hz => areBetween_any a cap s 0 7 w hz (by omega))
  unfold setB
  generalize isSetB s = V at H1 ⊢
  generalize allBtw s 0 7 = U at H2 ⊢
  cases V
  · go_enter Tryz.func103, Tryz.ntmps103
    go_wp2_with fail
    refine H1.out.mono ?_
    rintro e w1 ⟨rfl, hB⟩
    go_wp2_with fail
    go_ret
    exact ⟨rfl, hB⟩
  · go_enter Tryz.func103, Tryz.ntmps103
    go_wp2_with fail
    refine H1.out.mono ?_
    rintro e w1 ⟨rfl, hB⟩
    go_wp2_with fail
    refine (H2.out _ (hz.below hB (Nat.le_refl _))).mono ?_
    rintro e w2 ⟨rfl, rfl⟩
    go_wp2_with fail
    go_ret
    exact ⟨rfl, hB⟩

set_option maxRecDepth 100000 in
set_option maxHeartbeats 1000000 in
theorem validateF_any (a : Option Addr) (cap : Nat) (f : List (List Int)) (w : World) (hf : RowsAt w a f) (hm : ∀ z ∈ f, z.length ≤ 1000) :
    Calls Tryz.prog 93 #[.slice a f.length cap] w fun e w' => e = .returned (.int .i64 (vfam f)) ∧ Below w.heap.size w w' := by
  by_cases h8 : f.length ≤ 70
  · go_enter Tryz.func93, Tryz.ntmps93
    go_wp2_with fail
    go_loopw [10] (fun i wr => ∃ k : Nat, k ≤ f.length ∧ i = .int .i64 k ∧ (f.take k).all setB = true ∧ Below w.heap.size w wr) (fun i _ => f.length - (intOf i).toNat)
    case atStart => exact ⟨0, Nat.zero_le _, rfl, by simp, Below.refl _ _⟩
    case round =>
      obtain ⟨k, hk, rfl, hall, hB⟩ := hrel
      have HA := Lib.hid hall
      clear hall
      by_cases hlt : k < f.length
      · obtain ⟨b, off, s, a1, c1, rfl, hlb, hs, h0, hi⟩ := (hf.below hB (Nat.le_refl _)).at_ hlt
        have HS := Lib.hid hs
        have HV := Lib.hid (fun w hi => isValid_any a1 c1 s w hi (hm s (mem_of_get hs)))
        have HI := Lib.hid hi
        clear hf hs hi hm
        cases hv : setB s
        · have HZ := Lib.hid hv
          rw [hv] at HV
          clear hv
          go_wp2_with fail
          refine (HV.out _ HI.out).mono ?_
          rintro e w1 ⟨rfl, hB1⟩
          have hB2 : Below w.heap.size w w1 := hB.trans (hB1.mono hB.size)
          go_wp2_with fail
          go_ret
          exact ⟨ret_int (vfam_bad h8 (all_not HS.out HZ.out)).symm, hB2⟩
        · have HZ := Lib.hid hv
          rw [hv] at HV
          clear hv
          go_wp2_with fail
          refine (HV.out _ HI.out).mono ?_
          rintro e w1 ⟨rfl, hB1⟩
          have hB2 : Below w.heap.size w w1 := hB.trans (hB1.mono hB.size)
          go_wp2_with fail
          go_roundw
          case rel => exact ⟨k + 1, by omega, by go_num, all_snoc HA.out HS.out HZ.out, hB2⟩
          case measure => simp [intOf]; omega
      · go_wp2_with fail
        go_ret
        exact ⟨ret_int (vfam_good h8 (all_whole HA.out hlt)).symm, hB⟩
  · rw [vfam_large (by omega)]
    have h9 : 70 < f.length := by omega
    clear h8
    go_enter Tryz.func93, Tryz.ntmps93
    go_wp2_with fail
    go_ret
    exact ⟨rfl, Below.refl _ _⟩

set_option maxRecDepth 100000 in
set_option maxHeartbeats 1000000 in
theorem within3b_any (n lo hi : Int) (w : World) :
    Calls Tryz.prog 66 #[.int .i64 n, .int .i64 lo, .int .i64 hi] w fun e w' => e = .returned (.bool (btw n lo hi)) ∧ w = w' := by
  go_enter Tryz.func66, Tryz.ntmps66
  go_wp2
  all_goals go_ret
  · exact ⟨ret_bool (by simp [btw, *]), rfl⟩
  · exact ⟨ret_bool (btw_false (.inl ‹_›)).symm, rfl⟩

/-- The mask of the first numbers. -/
theorem maskM_snoc {s : List Int} {k : Nat} {x : Int} (h : s[k]? = some x) : maskM (s.take (k + 1)) = maskM (s.take k) ||| 2 ^ x.toNat := by
  unfold maskM
  rw [List.take_add_one, h, List.foldl_append]
  rfl
theorem maskM_take_lt {s : List Int} (h : setB s = true) (k : Nat) : maskM (s.take k) < 256 := maskM_lt_go _ (fun x hx => setB_btw h (List.take_subset _ _ hx)) 0 (by omega)

set_option maxRecDepth 100000 in
set_option maxHeartbeats 1000000 in
theorem maskOf_any (a : Option Addr) (cap : Nat) (s : List Int) (w : World) (hz : IntsAt w a s) (hv : setB s = true) :
    Calls Tryz.prog 105 #[.slice a s.length cap] w fun e w' => e = .returned (.int .u64 (maskM s)) ∧ w = w' := by
  have h8 := setB_len hv
  have HV := Lib.hid hv
  clear hv
  go_enter Tryz.func105, Tryz.ntmps105
  go_wp2_with fail
  go_loop [3, 8] (fun s3 s8 => ∃ k : Nat, k ≤ s.length ∧ s8 = .int .i64 k ∧ s3 = .int .u64 (maskM (s.take k))) (fun _ s8 => s.length - (intOf s8).toNat)
  case atStart => exact ⟨0, Nat.zero_le _, rfl, rfl⟩
  case round =>
    obtain ⟨k, hk, rfl, rfl⟩ := hrel
    by_cases hlt : k < s.length
    · obtain ⟨b, off, n, rfl, hlb, hl, h0⟩ := hz.at_ hlt
      have HL := Lib.hid hl
      obtain ⟨q1, q2⟩ := setB_btw HV.out (mem_of_get hl)
      obtain ⟨n', rfl⟩ : ∃ n' : Nat, n = n' := ⟨n.toNat, by omega⟩
      have HE := Lib.hid (maskM_snoc hl)
      have HW := Lib.hid (with_any (maskM (s.take k)) n' (maskM_take_lt HV.out k) (by omega) w)
      clear hl hz
      go_wp2_with fail
      refine HW.out.mono ?_
      rintro e w' ⟨rfl, rfl⟩
      go_wp2_with fail
      go_round
      case rel => exact ⟨k + 1, by omega, by go_num, by rw [HE.out]; rfl⟩
      case measure => simp [intOf]; omega
    · obtain rfl : k = s.length := by omega
      go_wp2_with fail
      go_ret
      exact ⟨by simp, rfl⟩

end Go.Proofs.YtigaklppdlknkaaGreat

/- Masks and numbers, what hits: contracts. -/
set_option linter.unusedVariables false
set_option linter.unusedSimpArgs false
namespace Go.Proofs.YtigaklppdlknkaaGreat
open Go.RowKit Tinker

/-- The cells of masks. -/
def uv (ms : List Nat) : List Value := ms.map fun (m : Nat) => Value.int .u64 (m : Int)
theorem uv_len (ms : List Nat) : (uv ms).length = ms.length := by simp [uv]
theorem uv_get {ms : List Nat} {j n : Nat} (h : ms[j]? = some n) : (uv ms)[j]? = some (.int .u64 n) := by simp [uv, h]
theorem uv_snoc (ms : List Nat) (m : Nat) : uv (ms ++ [m]) = uv ms ++ [.int .u64 m] := by simp [uv]
theorem msk_of_own {w : World} {base : Nat} {e : TypeId} {a : Option Addr} {n c : Nat} {ms : List Nat} (h : w.ownsRow base e 1 (.slice a n c) n (uv ms)) : MskAt w a ms ∧ ms.length = n := by
  have hl : ms.length = n := by
    have := h.1
    rw [uv_len] at this
    omega
  refine ⟨?_, hl⟩
  rcases Nat.eq_zero_or_pos n with h0 | h0
  · exact .inl (List.eq_nil_of_length_eq_zero (by omega))
  · obtain ⟨g, e'⟩ := own_form h h0
    subst e'
    exact .inr ⟨g, 0, rfl, own_lt h, fun j m hj => by rw [Nat.zero_add]; exact own_cell h (uv_get hj)⟩
/-- New masks. -/
def GivesMsk (ms : List Nat) (w : World) (e : Ending) (w' : World) : Prop :=
  ∃ a c, e = .returned (.slice a ms.length c) ∧ MskAt w' a ms ∧ Below w.heap.size w w'
theorem info_mask : (Tryz.prog.info? 88).map (fun i => (i.zero, i.size, i.bytes)) = some (some (.int .u64 0), 1, 8) := by kernel_rfl
theorem mkMasks (n : Nat) (hn : n ≤ 1000) (w : World) : (Instr.makeSlice 85 (.int .i64 (n : Int)) (.int .i64 (n : Int))).run Tryz.prog w = .ok (.slice (some ⟨w.heap.size, 0, none⟩) n n) (w.alloc (.cells (List.replicate n (Value.int .u64 0)).toArray 88)) := by
  obtain ⟨i0, hi, hz0, hz1, hz2⟩ := info_parts info_mask
  have h := run_make w 85 88 i0 (.int .u64 0) Tryz.underlying85 hi hz0 .i64 .i64 n n (by omega) (by omega) (by rw [hz2]; omega) (by omega)
  rw [hz1] at h
  rw [h]
  show Result.ok _ (w.alloc (.cells (madeCells #[Value.int .u64 0] _) _)) = _
  rw [madeCells_one]
  simp
/-- A block of masks, of which the first are laid. -/
structure MskI (M : Nat) (ms : List Nat) (n : Nat) (w W : World) : Prop where
  bm : W.heap[M]? = some (.cells (uv (ms ++ List.replicate (n - ms.length) 0)).toArray 88 (0, 0))
  ln : ms.length ≤ n
  hM : w.heap.size ≤ M
  below : Below w.heap.size w W
theorem MskI.low {M : Nat} {ms : List Nat} {n : Nat} {w W W' : World} (h : MskI M ms n w W) (hb : Below W.heap.size W W') : MskI M ms n w W' :=
  ⟨hp_below h.bm hb (hp_lt h.bm), h.ln, h.hM, h.below.trans (hb.mono h.below.size)⟩
theorem MskI.cell {M : Nat} {ms : List Nat} {n : Nat} {w W : World} (h : MskI M ms n w W) {k : Nat} (hk : k < n) : ∃ v, W.cell? ⟨M, k, none⟩ = some v := by
  have hl := h.ln
  obtain ⟨v, hv⟩ := get_of_lt (show k < (uv (ms ++ List.replicate (n - ms.length) 0)).length by rw [uv_len]; simp; omega)
  exact ⟨v, hp_cell h.bm (by simpa using hv)⟩
theorem MskI.put {M : Nat} {ms : List Nat} {n : Nat} {w W : World} (h : MskI M ms n w W) (hk : ms.length < n) (m : Nat) :
    MskI M (ms ++ [m]) n w (W.setCell ⟨M, ms.length, none⟩ (.int .u64 m)) := by
  refine ⟨?_, by simp; omega, h.hM, h.below.setCell (p := ⟨M, _, none⟩) h.hM _⟩
  have := hp_put h.bm ms.length (.int .u64 m)
  rw [List.setIfInBounds_toArray] at this
  rw [this]
  have e : (uv (ms ++ List.replicate (n - ms.length) 0)).set ms.length (.int .u64 m) = uv (ms ++ [m] ++ List.replicate (n - (ms ++ [m]).length) 0) := by
    unfold uv
    rw [show n - ms.length = (n - (ms ++ [m]).length) + 1 by simp; omega, List.replicate_succ]
    simp
  rw [e]
theorem MskI.at_ {M : Nat} {ms : List Nat} {w W : World} (h : MskI M ms ms.length w W) : MskAt W (some ⟨M, 0, none⟩) ms :=
  .inr ⟨M, 0, rfl, hp_lt h.bm, fun j n hj => by
    rw [Nat.zero_add]
    refine hp_cell h.bm ?_
    have hlt := (List.getElem?_eq_some_iff.1 hj).1
    have := uv_get (ms := ms ++ List.replicate (ms.length - ms.length) 0) (j := j) (n := n) (by rw [List.getElem?_append_left hlt]; exact hj)
    simpa using this⟩
theorem mskI_new (w : World) (n : Nat) : MskI w.heap.size [] n w (w.alloc (.cells (List.replicate n (Value.int .u64 0)).toArray 88)) :=
  ⟨hp_new rfl |>.trans (by simp [uv]), by simp, Nat.le_refl _, (Below.refl _ _).alloc (Nat.le_refl _) _⟩

set_option maxRecDepth 100000 in
set_option maxHeartbeats 1000000 in
theorem masksOf_any (a : Option Addr) (cap : Nat) (f : List (List Int)) (w : World) (hf : RowsAt w a f) (hv : ∀ s ∈ f, setB s = true) (hm : f.length ≤ 1000) :
    Calls Tryz.prog 95 #[.slice a f.length cap] w (GivesMsk (fmM f) w) := by
  have hmk := mkMasks f.length hm
  have HV := Lib.hid hv
  clear hv
  go_enter Tryz.func95, Tryz.ntmps95
  go_wp2_with fail
  go_loopw [11] (fun s11 wr => ∃ k : Nat, k ≤ f.length ∧ s11 = .int .i64 k ∧ MskI w.heap.size (fmM (f.take k)) f.length w wr) (fun s11 _ => f.length - (intOf s11).toNat)
  case atStart => exact ⟨0, Nat.zero_le _, rfl, mskI_new w f.length⟩
  case round =>
    obtain ⟨k, hk, rfl, hI⟩ := hrel
    by_cases hlt : k < f.length
    · obtain ⟨b, off, s, a1, c1, rfl, hlb, hs, h0, hi⟩ := (hf.below hI.below (Nat.le_refl _)).at_ hlt
      have HS := Lib.hid hs
      have HM := Lib.hid (maskOf_any a1 c1 s wr hi (HV.out s (mem_of_get hs)))
      obtain ⟨v, m1⟩ := hI.cell hlt
      have m2 := hp_free hI.bm k
      have hkl : (fmM (f.take k)).length = k := by rw [fmM_len, List.length_take]; omega
      have HI := Lib.hid hI
      have HL := Lib.hid hkl
      clear hf hs hi hI hkl
      go_wp2_with fail
      refine HM.out.mono ?_
      rintro e w1 ⟨rfl, rfl⟩
      go_wp2_with fail
      go_roundw
      case rel =>
        refine ⟨k + 1, by omega, by go_num, ?_⟩
        have h := HI.out.put (by rw [HL.out]; exact hlt) (maskM s)
        rw [HL.out] at h
        have e : fmM (f.take (k + 1)) = fmM (f.take k) ++ [maskM s] := map_take_snoc maskM HS.out
        rw [e]; exact h
      case measure => simp [intOf]; omega
    · obtain rfl : k = f.length := by omega
      rw [List.take_length] at hI
      have HI := Lib.hid hI
      clear hI
      go_wp2_with fail
      go_ret
      refine ⟨some ⟨w.heap.size, 0, none⟩, f.length, by rw [fmM_len]; rfl, MskI.at_ (w := w) (by have h := HI.out; rw [← fmM_len f] at h; exact h), HI.out.below⟩

/-- The numbers below k. -/
def nuTo (m k : Nat) : List Int := ((List.range k).filter (fun n => m.testBit n)).map (fun n : Nat => (n : Int))
theorem nuTo_yes {m k : Nat} (h : m.testBit k = true) : nuTo m (k + 1) = nuTo m k ++ [(k : Int)] := by unfold nuTo; rw [List.range_succ, List.filter_append]; simp [h]
theorem nuTo_no {m k : Nat} (h : m.testBit k = false) : nuTo m (k + 1) = nuTo m k := by unfold nuTo; rw [List.range_succ, List.filter_append]; simp [h]
theorem nuTo_len (m k : Nat) : (nuTo m k).length ≤ k := by
  unfold nuTo
  rw [List.length_map]
  exact Nat.le_trans (List.length_filter_le _ _) (by simp)
theorem nuTo_8 (m : Nat) : nuTo m 8 = numsM m := rfl

set_option maxRecDepth 100000 in
set_option maxHeartbeats 1000000 in
theorem numbers_any (m : Nat) (hm : m < 256) (w : World) :
    Calls Tryz.prog 62 #[.int .u64 m] w (GivesInts (numsM m) w) := by
  obtain ⟨i0, hi, hz0, hz1, hz2⟩ := info_parts info_int
  go_enter Tryz.func62, Tryz.ntmps62
  go_wp2_with fail
  go_loopw [3, 5] (fun s3 s5 wr => ∃ k : Nat, k ≤ 8 ∧ s5 = .int .i64 k ∧ wr.ownsRow w.heap.size 3 1 s3 (nuTo m k).length ((nuTo m k).map (Value.int .i64)) ∧ Below w.heap.size w wr) (fun _ s5 _ => 8 - (intOf s5).toNat)
  case atStart => exact ⟨0, Nat.zero_le _, rfl, World.ownsRow_nil _ _ _ _, Below.refl _ _⟩
  case round =>
    obtain ⟨k, hk, rfl, hown, hB⟩ := hrel
    by_cases hlt : k < 8
    · have HH := Lib.hid (has_any m k hm hlt wr)
      have hl := nuTo_len m k
      cases hb : m.testBit k
      · have HE := Lib.hid (nuTo_no hb)
        have HO := Lib.hid hown
        rw [hb] at HH
        clear hb hown
        go_wp2_with fail
        refine HH.out.mono ?_
        rintro e w1 ⟨rfl, rfl⟩
        go_wp2_with fail
        go_roundw
        case rel => exact ⟨k + 1, by omega, by go_num, by rw [HE.out]; exact HO.out, hB⟩
        case measure => simp [intOf]; omega
      · have HE := Lib.hid (nuTo_yes hb)
        rw [hb] at HH
        clear hb
        go_wp2_with (first | (at_builtin; refine wpList_append_own _ rfl (.tmp 11) (.tmp 13) 34 rfl w.heap.size 3 i0 (.int .i64 0) 1 8 Tryz.underlying34 hi hz0 hz1 hz2 rfl (by decide) _ _ _ rfl (hown.alloc _) ⟨wr.heap.size, 0, none⟩ 1 1 [.int .i64 k] rfl rfl ?c1 ?c2 ?c3 ?c4 ?c5 ?_) | (go_at_call 120; refine HH.out.mono ?_; rintro e w1 ⟨rfl, rfl⟩))
        case c1 => exact cell_one_new _ _ _
        case c2 => simp [Value.oneCell']
        case c3 => unfold maxLen; omega
        case c4 => omega
        case c5 => have := hB.size; simp; omega
        intro v' w1 hown' hgrow _
        have hB1 : Below w.heap.size w w1 := (hB.alloc hB.size _).grown hgrow (by have := hB.size; simp; omega) (own_base hown)
        have e : (nuTo m k).map (Value.int .i64) ++ [.int .i64 (k : Int)] = (nuTo m (k + 1)).map (Value.int .i64) := by rw [HE.out]; simp
        have e2 : (nuTo m k).length + 1 = (nuTo m (k + 1)).length := by rw [HE.out]; simp
        rw [e, e2] at hown'
        have HO := Lib.hid hown'
        clear hown hown' hgrow e e2
        go_wp2_with fail
        go_roundw
        case rel => exact ⟨k + 1, by omega, by go_num, HO.out, hB1⟩
        case measure => simp [intOf]; omega
    · obtain rfl : k = 8 := by omega
      rw [nuTo_8] at hown
      have HO := Lib.hid hown
      clear hown
      go_wp2_with fail
      go_ret
      exact givesInts_of rfl HO.out hB

set_option maxRecDepth 100000 in
set_option maxHeartbeats 1000000 in
theorem rList3_any (m : Nat) (hm : m < 256) (w : World) :
    Calls Tryz.prog 68 #[.int .i64 m] w (GivesInts (numsM m) w) := by
  obtain ⟨i0, hi, hz0, hz1, hz2⟩ := info_parts info_int
  go_enter Tryz.func68, Tryz.ntmps68
  go_wp2_with fail
  go_loopw [3, 4] (fun s3 s5 wr => ∃ k : Nat, k ≤ 8 ∧ s5 = .int .i64 k ∧ wr.ownsRow w.heap.size 3 1 s3 (nuTo m k).length ((nuTo m k).map (Value.int .i64)) ∧ Below w.heap.size w wr) (fun _ s5 _ => 8 - (intOf s5).toNat)
  case atStart => exact ⟨0, Nat.zero_le _, rfl, World.ownsRow_nil _ _ _ _, Below.refl _ _⟩
  case round =>
    obtain ⟨k, hk, rfl, hown, hB⟩ := hrel
    by_cases hlt : k < 8
    · have h4 : min k 64 = k := by omega
      have h5 : ((m : Int) / 2 ^ k) = ((m / 2 ^ k : Nat) : Int) := by rw [powi]; exact (Int.natCast_ediv m (2 ^ k)).symm
      have h6 : bits BinOp.and IntKind.i64 ((m : Int) / 2 ^ k) 1 = (m : Int) / 2 ^ k % 2 := by
        rw [h5, show (1 : Int) = ((1 : Nat) : Int) from rfl, bits_and_i (b := 1) (Nat.lt_of_le_of_lt (Nat.div_le_self _ _) hm) (by omega), Nat.and_one_is_mod]; rfl
      have h7 : ((m : Int) / 2 ^ k % 2 == 1) = m.testBit k := by
        rw [← shr_bit m hm k hlt, Nat.and_one_is_mod, h5, Bool.eq_iff_iff, beq_iff_eq, beq_iff_eq]; omega
      clear h5
      have hl := nuTo_len m k
      cases hb : m.testBit k
      · have HE := Lib.hid (nuTo_no hb)
        have HO := Lib.hid hown
        rw [hb] at h7
        clear hb hown
        go_wp2_with fail
        go_roundw
        case rel => exact ⟨k + 1, by omega, by go_num, by rw [HE.out]; exact HO.out, hB⟩
        case measure => simp [intOf]; omega
      · have HE := Lib.hid (nuTo_yes hb)
        rw [hb] at h7
        clear hb
        go_wp2_with (at_builtin; refine wpList_append_own _ rfl (.tmp 15) (.tmp 17) 34 rfl w.heap.size 3 i0 (.int .i64 0) 1 8 Tryz.underlying34 hi hz0 hz1 hz2 rfl (by decide) _ _ _ rfl (hown.alloc _) ⟨wr.heap.size, 0, none⟩ 1 1 [.int .i64 k] rfl rfl ?c1 ?c2 ?c3 ?c4 ?c5 ?_)
        case c1 => exact cell_one_new _ _ _
        case c2 => simp [Value.oneCell']
        case c3 => unfold maxLen; omega
        case c4 => omega
        case c5 => have := hB.size; simp; omega
        intro v' w1 hown' hgrow _
        have hB1 : Below w.heap.size w w1 := (hB.alloc hB.size _).grown hgrow (by have := hB.size; simp; omega) (own_base hown)
        have e : (nuTo m k).map (Value.int .i64) ++ [.int .i64 (k : Int)] = (nuTo m (k + 1)).map (Value.int .i64) := by rw [HE.out]; simp
        have e2 : (nuTo m k).length + 1 = (nuTo m (k + 1)).length := by rw [HE.out]; simp
        rw [e, e2] at hown'
        have HO := Lib.hid hown'
        clear hown hown' hgrow e e2
        go_wp2_with fail
        go_roundw
        case rel => exact ⟨k + 1, by omega, by go_num, HO.out, hB1⟩
        case measure => simp [intOf]; omega
    · obtain rfl : k = 8 := by omega
      rw [nuTo_8] at hown
      have HO := Lib.hid hown
      clear hown
      go_wp2_with fail
      go_ret
      exact givesInts_of rfl HO.out hB

end Go.Proofs.YtigaklppdlknkaaGreat

/- What hits a family; families of masks: contracts. -/
set_option linter.unusedVariables false
set_option linter.unusedSimpArgs false
namespace Go.Proofs.YtigaklppdlknkaaGreat
open Go.RowKit Tinker

/-- Own lists of numbers in memory, from a base on. -/
def RowsB (base : Nat) (w : World) (g : Option Addr) (fs : List (List Int)) : Prop :=
  fs = [] ∨ ∃ b off, g = some ⟨b, off, none⟩ ∧ b < w.heap.size ∧ ∀ j zs, fs[j]? = some zs → ∃ a c, w.cell? ⟨b, off + j, none⟩ = some (.slice a zs.length c) ∧ OwnL w base none a zs
theorem RowsB.at_ {base : Nat} {w : World} {g : Option Addr} {fs : List (List Int)} (h : RowsB base w g fs) : RowsAt w g fs := by
  rcases h with h | ⟨b, off, e, hlt, hc⟩
  · exact .inl h
  · exact .inr ⟨b, off, e, hlt, fun j zs hj => by
      obtain ⟨a, c, h0, h1⟩ := hc j zs hj
      exact ⟨a, c, h0, h1.at_⟩⟩
theorem RowsB.wide {base base' : Nat} {w : World} {g : Option Addr} {fs : List (List Int)} (h : RowsB base w g fs) (hb : base' ≤ base) : RowsB base' w g fs := by
  rcases h with h | ⟨b, off, e, hlt, hc⟩
  · exact .inl h
  · exact .inr ⟨b, off, e, hlt, fun j zs hj => by
      obtain ⟨a, c, h0, h1⟩ := hc j zs hj
      exact ⟨a, c, h0, h1.wide hb⟩⟩
theorem RowsB.below {base : Nat} {w w' : World} {g : Option Addr} {fs : List (List Int)} (h : RowsB base w g fs) (hb : Below w.heap.size w w') : RowsB base w' g fs := by
  rcases h with h | ⟨b, off, e, hlt, hc⟩
  · exact .inl h
  · exact .inr ⟨b, off, e, Nat.lt_of_lt_of_le hlt hb.size, fun j zs hj => by
      obtain ⟨a, c, h0, h1⟩ := hc j zs hj
      exact ⟨a, c, (hb.cell (p := ⟨b, _, none⟩) (by show b < _; omega)).trans h0, h1.low hb⟩⟩
theorem TabI.atB {M : Nat} {rs : List (List Int)} {n : Nat} {xs : List Value} {w W : World} (h : TabI M rs n xs w W) : RowsB w.heap.size W (some ⟨M, 0, none⟩) rs :=
  .inr ⟨M, 0, rfl, hp_lt h.bm, fun j zs hj => by
    obtain ⟨a, c, h1, h2⟩ := h.st j zs hj
    exact ⟨a, c, by rw [Nat.zero_add]; exact hp_cell h.bm (by simpa using h1), h2.free (fun b _ _ => by simp)⟩⟩
theorem ownL_off {W : World} {base M : Nat} {a : Option Addr} {zs : List Int} (h : OwnL W base none a zs) (hM : M < base) : OwnL W base (some M) a zs := by
  rcases h with h | ⟨b, h1, h2, h3, h4⟩
  · exact .inl h
  · exact .inr ⟨b, h1, h2, by intro e; injection e with e; omega, h4⟩
/-- New lists, and a code. -/
def GivesRowsB (fs : List (List Int)) (w : World) (e : Ending) (w' : World) : Prop :=
  ∃ a cap, e = .returned (.slice a fs.length cap) ∧ RowsB w.heap.size w' a fs ∧ Below w.heap.size w w'
def GivesRowsBE (fs : List (List Int)) (c : Int) (w : World) (e : Ending) (w' : World) : Prop :=
  ∃ a cap, e = .returned (.tuple #[.slice a fs.length cap, .int .i64 c]) ∧ RowsB w.heap.size w' a fs ∧ Below w.heap.size w w'
theorem givesRowsBE_nil {c : Int} {w w' : World} (hB : Below w.heap.size w w') : GivesRowsBE [] c w (.returned (.tuple #[.slice none 0 0, .int .i64 c])) w' := ⟨none, 0, rfl, .inl rfl, hB⟩

set_option maxRecDepth 100000 in
set_option maxHeartbeats 1000000 in
theorem family_any (a : Option Addr) (cap : Nat) (ms : List Nat) (w : World) (hf : MskAt w a ms) (hv : ∀ m ∈ ms, m < 256) (hm : ms.length ≤ 1000) :
    Calls Tryz.prog 59 #[.slice a ms.length cap] w (GivesRowsB (ms.map numsM) w) := by
  have hmk := mkRows ms.length hm
  have HV := Lib.hid hv
  clear hv
  go_enter Tryz.func59, Tryz.ntmps59
  go_wp2_with fail
  go_loopw [11] (fun s11 wr => ∃ (k : Nat) (xs : List Value), k ≤ ms.length ∧ s11 = .int .i64 k ∧ TabI w.heap.size ((ms.take k).map numsM) ms.length xs w wr) (fun s11 _ => ms.length - (intOf s11).toNat)
  case atStart => exact ⟨0, _, Nat.zero_le _, rfl, tabI_new w ms.length⟩
  case round =>
    obtain ⟨k, xs, hk, rfl, hI⟩ := hrel
    by_cases hlt : k < ms.length
    · obtain ⟨b, off, m, rfl, hlb, hs, h0⟩ := (hf.below hI.below (Nat.le_refl _)).at_ hlt
      have HS := Lib.hid (map_take_snoc numsM hs)
      have HM := Lib.hid (numbers_any m (HV.out m (mem_of_get hs)) wr)
      have HTL := Lib.hid (show ((ms.take k).map numsM).length = k by simp; omega)
      have HL := Lib.hid (show w.heap.size < wr.heap.size from hp_lt hI.bm)
      have HI := Lib.hid hI
      clear hf hs hI
      go_wp2_with fail
      refine HM.out.mono ?_
      rintro e w1 ⟨a1, c1, rfl, ho, hB1⟩
      have hI2 := HI.out.low hB1
      obtain ⟨v, m1⟩ := hI2.cell hlt
      have m2 := hp_free hI2.bm k
      have hOL := (ownL_off (ownL_of ho) HL.out).wide (Nat.le_of_lt HL.out)
      have hP := hI2.put (c := c1) (by rw [HTL.out]; exact hlt) hOL
      rw [HTL.out, ← HS.out] at hP
      have HP := Lib.hid hP
      clear hP hOL hI2 ho hB1 HI
      go_wp2_with fail
      go_roundw
      case rel => exact ⟨k + 1, _, by omega, by go_num, HP.out⟩
      case measure => simp [intOf]; omega
    · obtain rfl : k = ms.length := by omega
      rw [List.take_length] at hI
      have HI := Lib.hid hI
      clear hI
      go_wp2_with fail
      go_ret
      refine ⟨some ⟨w.heap.size, 0, none⟩, ms.length, by rw [List.length_map]; rfl, HI.out.atB, HI.out.below⟩

set_option maxRecDepth 100000 in
set_option maxHeartbeats 1000000 in
theorem indexFunc_apart (m : Nat) (hm : m < 256) (a : Option Addr) (cap : Nat) (ms : List Nat) (w : World) (hf : MskAt w a ms) (hv : ∀ x ∈ ms, x < 256) (hl : ms.length ≤ 1000) :
    Calls Tryz.prog 193 #[.slice a ms.length cap, .func (.func 161) #[.int .u64 m] #[]] w fun e w' => ∃ r : Int, e = .returned (.int .i64 r) ∧ decide (0 ≤ r) = !hitsM ms m ∧ Below w.heap.size w w' := by
  have HV := Lib.hid hv
  clear hv
  go_enter Tryz.func193, Tryz.ntmps193
  go_wp2_with fail
  go_loopw [8] (fun s8 wr => ∃ k : Nat, k ≤ ms.length ∧ s8 = .int .i64 k ∧ (ms.take k).all (fun x => x &&& m != 0) = true ∧ Below w.heap.size w wr) (fun s8 _ => ms.length - (intOf s8).toNat)
  case atStart => exact ⟨0, Nat.zero_le _, rfl, by simp, Below.refl _ _⟩
  case round =>
    obtain ⟨k, hk, rfl, hall, hB⟩ := hrel
    have HA := Lib.hid hall
    clear hall
    by_cases hlt : k < ms.length
    · obtain ⟨b, off, x, rfl, hlb, hs, h0⟩ := (hf.below hB (Nat.le_refl _)).at_ hlt
      have HS := Lib.hid hs
      have HM := Lib.hid (isApart_any m x hm (HV.out x (mem_of_get hs)) wr)
      clear hf hs
      cases hb : (x &&& m != 0)
      · have HZ := Lib.hid hb
        rw [show (m &&& x == 0) = true by rw [Nat.and_comm]; simpa using hb] at HM
        clear hb
        go_wp2_with fail
        refine HM.out.mono ?_
        rintro e w1 ⟨rfl, rfl⟩
        go_wp2_with fail
        go_ret
        refine ⟨k, rfl, ?_, hB⟩
        unfold hitsM
        rw [all_not HS.out HZ.out]
        simp
      · have HZ := Lib.hid hb
        rw [show (m &&& x == 0) = false by rw [Nat.and_comm]; simpa using hb] at HM
        clear hb
        go_wp2_with fail
        refine HM.out.mono ?_
        rintro e w1 ⟨rfl, rfl⟩
        go_wp2_with fail
        go_roundw
        case rel => exact ⟨k + 1, by omega, by go_num, all_snoc HA.out HS.out HZ.out, hB⟩
        case measure => simp [intOf]; omega
    · have HZ := Lib.hid (all_whole HA.out hlt)
      go_wp2_with fail
      go_ret
      refine ⟨-1, rfl, ?_, hB⟩
      unfold hitsM
      rw [HZ.out]
      decide

set_option maxRecDepth 100000 in
set_option maxHeartbeats 1000000 in
theorem hits_any (a : Option Addr) (cap : Nat) (ms : List Nat) (m : Nat) (hm : m < 256) (w : World) (hf : MskAt w a ms) (hv : ∀ x ∈ ms, x < 256) (hl : ms.length ≤ 1000) :
    Calls Tryz.prog 104 #[.slice a ms.length cap, .int .u64 m] w fun e w' => e = .returned (.bool (hitsM ms m)) ∧ Below w.heap.size w w' := by
  have HC := Lib.hid (show Calls Tryz.prog 154 #[.slice a ms.length cap, .func (.func 161) #[.int .u64 m] #[]] w fun e w' => e = .returned (.bool (!hitsM ms m)) ∧ Below w.heap.size w w' from by
    have HI := Lib.hid (indexFunc_apart m hm a cap ms w hf hv hl)
    clear hf hv
    go_enter Tryz.func154, Tryz.ntmps154
    go_wp2_with fail
    refine HI.out.mono ?_
    rintro e w1 ⟨r, rfl, hr, hB⟩
    have HR := Lib.hid hr
    clear hr
    go_wp2_with fail
    go_ret
    exact ⟨ret_bool HR.out, hB⟩)
  clear hf hv
  go_enter Tryz.func104, Tryz.ntmps104
  go_wp2_with fail
  refine HC.out.mono ?_
  rintro e w1 ⟨rfl, hB⟩
  go_wp2_with fail
  go_ret
  exact ⟨ret_bool (by simp), hB⟩

set_option maxRecDepth 100000 in
set_option maxHeartbeats 1000000 in
theorem needsAll_any (a : Option Addr) (cap : Nat) (ms : List Nat) (m : Nat) (hm : m < 256) (w : World) (hf : MskAt w a ms) (hv : ∀ x ∈ ms, x < 256) (hl : ms.length ≤ 1000) :
    Calls Tryz.prog 152 #[.slice a ms.length cap, .int .u64 m] w fun e w' => e = .returned (.bool (needM ms m)) ∧ Below w.heap.size w w' := by
  have HN := Lib.hid (numbers_any m hm w)
  have h8 := numsM_len m
  go_enter Tryz.func152, Tryz.ntmps152
  go_wp2_with fail
  refine HN.out.mono ?_
  rintro e w1 ⟨a1, c1, rfl, ho, hB0⟩
  have HI1 := Lib.hid (ints_of_own ho).1
  have HB0 := Lib.hid hB0
  clear ho hB0
  go_wp2_with fail
  go_loopw [10] (fun s8 wr => ∃ k : Nat, k ≤ (numsM m).length ∧ s8 = .int .i64 k ∧ ((numsM m).take k).all (fun n => !hitsM ms (woM m n.toNat)) = true ∧ Below w1.heap.size w1 wr) (fun s8 _ => (numsM m).length - (intOf s8).toNat)
  case atStart => exact ⟨0, Nat.zero_le _, rfl, by simp, Below.refl _ _⟩
  case round =>
    obtain ⟨k, hk, rfl, hall, hB⟩ := hrel
    have HA := Lib.hid hall
    have HBB := Lib.hid (HB0.out.trans (hB.mono HB0.out.size))
    clear hall
    by_cases hlt : k < (numsM m).length
    · obtain ⟨b, off, x, rfl, hlb, hs, h0⟩ := (HI1.out.below hB (Nat.le_refl _)).at_ hlt
      have HS := Lib.hid hs
      obtain ⟨n, rfl, hn, _⟩ := numsM_mem'.1 (mem_of_get hs)
      have HW := Lib.hid (without_any m n hm hn wr)
      have HH := Lib.hid (hits_any a cap ms (woM m n) (wo_lt m hm n hn) wr (hf.below HBB.out (Nat.le_refl _)) hv hl)
      have HE := Lib.hid (show (n : Int).toNat = n by omega)
      clear hf hs hv
      cases hb : hitsM ms (woM m n)
      · have HZ := Lib.hid hb
        rw [hb] at HH
        clear hb
        go_wp2_with fail
        refine HW.out.mono ?_
        rintro e w2 ⟨rfl, rfl⟩
        go_wp2_with fail
        refine HH.out.mono ?_
        rintro e w2 ⟨rfl, hB2⟩
        go_wp2_with fail
        go_roundw
        case rel => exact ⟨k + 1, by omega, by go_num, all_snoc HA.out HS.out (by rw [HE.out, HZ.out]; rfl), hB.trans (hB2.mono hB.size)⟩
        case measure => simp [intOf]; omega
      · have HZ := Lib.hid hb
        rw [hb] at HH
        clear hb
        go_wp2_with fail
        refine HW.out.mono ?_
        rintro e w2 ⟨rfl, rfl⟩
        go_wp2_with fail
        refine HH.out.mono ?_
        rintro e w2 ⟨rfl, hB2⟩
        go_wp2_with fail
        go_ret
        exact ⟨ret_bool (by unfold needM; exact (all_not HS.out (by rw [HE.out, HZ.out]; rfl)).symm), HBB.out.trans (hB2.mono HBB.out.size)⟩
    · have HZ := Lib.hid (all_whole HA.out hlt)
      go_wp2_with fail
      go_ret
      exact ⟨ret_bool (by unfold needM; exact HZ.out.symm), HBB.out⟩

end Go.Proofs.YtigaklppdlknkaaGreat
