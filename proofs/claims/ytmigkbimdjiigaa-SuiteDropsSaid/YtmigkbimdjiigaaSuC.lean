/- Several texts in one. -/
import Derived.Test.YtmigkbimdjiigaaBlD
import Derived.Test.YtmigkbimdjiigaaRunC
import Derived.Test.YtmigkbimdjiigaaRSl
import Derived.Test.YtmigkbimdjiigaaSuN
import Derived.Shelf.Small.Bits
/- Masks of kit below 1024: contracts. -/
set_option linter.unusedVariables false
set_option linter.unusedSimpArgs false
namespace Go.Proofs.Ytmigkbimdjiigaa
open Go.RowKit Tinker

theorem wrapK {n : Nat} (h : n < 11) : IntKind.u64.wrap (2 ^ n) = ((2 ^ n : Nat) : Int) := by
  have h3 : 2 ^ n ≤ 2 ^ 10 := Nat.pow_le_pow_right (by omega) (by omega)
  have h4 : (((2 ^ n : Nat)) : Int) ≤ 1024 := by omega
  have h5 : (0 : Int) ≤ ((2 ^ n : Nat) : Int) := Int.natCast_nonneg _
  rw [powi]
  generalize ((2 ^ n : Nat) : Int) = q at h4 h5
  exact IntWalk.u64_in _ (by omega)
theorem wrapKi {n : Nat} (h : n < 11) : IntKind.i64.wrap (2 ^ n) = ((2 ^ n : Nat) : Int) := by
  have h3 : 2 ^ n ≤ 2 ^ 10 := Nat.pow_le_pow_right (by omega) (by omega)
  have h4 : (((2 ^ n : Nat)) : Int) ≤ 1024 := by omega
  have h5 : (0 : Int) ≤ ((2 ^ n : Nat) : Int) := Int.natCast_nonneg _
  rw [powi]
  generalize ((2 ^ n : Nat) : Int) = q at h4 h5
  exact IntWalk.i64_in _ (by omega)
theorem bits_andK {a b : Nat} (ha : a < 1024) (hb : b < 1024) : bits BinOp.and IntKind.u64 (a : Int) (b : Int) = ((a &&& b : Nat) : Int) := by
  show IntKind.u64.wrap (((BitVec.ofInt 64 (a : Int)) &&& (BitVec.ofInt 64 (b : Int))).toNat : Int) = _
  have : a &&& b ≤ a := Nat.and_le_left
  rw [BitVec.ofInt_natCast, BitVec.ofInt_natCast, BitVec.toNat_and, BitVec.toNat_ofNat, BitVec.toNat_ofNat, Nat.mod_eq_of_lt (by omega), Nat.mod_eq_of_lt (by omega), IntWalk.u64_in _ (by omega)]
theorem bits_andKi {a b : Nat} (ha : a < 1024) (hb : b < 1024) : bits BinOp.and IntKind.i64 (a : Int) (b : Int) = ((a &&& b : Nat) : Int) := by
  show IntKind.i64.wrap (((BitVec.ofInt 64 (a : Int)) &&& (BitVec.ofInt 64 (b : Int))).toNat : Int) = _
  have : a &&& b ≤ a := Nat.and_le_left
  rw [BitVec.ofInt_natCast, BitVec.ofInt_natCast, BitVec.toNat_and, BitVec.toNat_ofNat, BitVec.toNat_ofNat, Nat.mod_eq_of_lt (by omega), Nat.mod_eq_of_lt (by omega), IntWalk.i64_in _ (by omega)]
theorem bits_orK {a b : Nat} (ha : a < 1024) (hb : b < 1024) : bits BinOp.or IntKind.u64 (a : Int) (b : Int) = ((a ||| b : Nat) : Int) := by
  show IntKind.u64.wrap (((BitVec.ofInt 64 (a : Int)) ||| (BitVec.ofInt 64 (b : Int))).toNat : Int) = _
  have := or_ltK ha hb
  rw [BitVec.ofInt_natCast, BitVec.ofInt_natCast, BitVec.toNat_or, BitVec.toNat_ofNat, BitVec.toNat_ofNat, Nat.mod_eq_of_lt (by omega), Nat.mod_eq_of_lt (by omega), IntWalk.u64_in _ (by omega)]
theorem bits_orKi {a b : Nat} (ha : a < 1024) (hb : b < 1024) : bits BinOp.or IntKind.i64 (a : Int) (b : Int) = ((a ||| b : Nat) : Int) := by
  show IntKind.i64.wrap (((BitVec.ofInt 64 (a : Int)) ||| (BitVec.ofInt 64 (b : Int))).toNat : Int) = _
  have := or_ltK ha hb
  rw [BitVec.ofInt_natCast, BitVec.ofInt_natCast, BitVec.toNat_or, BitVec.toNat_ofNat, BitVec.toNat_ofNat, Nat.mod_eq_of_lt (by omega), Nat.mod_eq_of_lt (by omega), IntWalk.i64_in _ (by omega)]
theorem not_dif {a b : Nat} (ha : a < 1024) (hb : b < 1024) : (((BitVec.ofInt 64 (a : Int)) &&& ~~~(BitVec.ofInt 64 (b : Int))).toNat) = difK a b := by
  refine Nat.eq_of_testBit_eq fun i => ?_
  rw [BitVec.ofInt_natCast, BitVec.ofInt_natCast, BitVec.testBit_toNat, BitVec.getLsbD_and, BitVec.getLsbD_not, BitVec.getLsbD_ofNat, BitVec.getLsbD_ofNat, difK_bit]
  by_cases hi : i < 64
  · simp [hi]
  · have e : (1024 : Nat) ≤ 2 ^ i := Nat.le_trans (by decide) (Nat.pow_le_pow_right (n := 2) (i := 10) (j := i) (by omega) (by omega))
    rw [Nat.testBit_lt_two_pow (Nat.lt_of_lt_of_le ha e)]
    simp [hi]
theorem bits_notK {a b : Nat} (ha : a < 1024) (hb : b < 1024) : bits BinOp.andNot IntKind.u64 (a : Int) (b : Int) = ((difK a b : Nat) : Int) := by
  show IntKind.u64.wrap (((BitVec.ofInt 64 (a : Int)) &&& ~~~(BitVec.ofInt 64 (b : Int))).toNat : Int) = _
  have := difK_lt (b := b) ha
  rw [not_dif ha hb, IntWalk.u64_in _ (by omega)]

set_option maxRecDepth 100000 in
set_option maxHeartbeats 1000000 in
theorem kWith_any (m n : Nat) (hm : m < 1024) (hn : n < 10) (w : World) : Calls Try.prog 98 #[.int .u64 m, .int .i64 n] w fun e w' => e = .returned (.int .u64 (m ||| 2 ^ n : Nat)) ∧ w = w' := by
  have h1 := wrapK (show n < 11 by omega)
  have h2 : bits BinOp.or IntKind.u64 (m : Int) (2 ^ n) = ((m ||| 2 ^ n : Nat) : Int) := by rw [powi]; exact bits_orK hm (powK hn).1
  go_enter Try.func98, Try.ntmps98
  go_wp2_with fail
  go_ret
  exact ⟨rfl, rfl⟩
set_option maxRecDepth 100000 in
set_option maxHeartbeats 1000000 in
theorem kWithout_any (m n : Nat) (hm : m < 1024) (hn : n < 10) (w : World) : Calls Try.prog 72 #[.int .u64 m, .int .i64 n] w fun e w' => e = .returned (.int .u64 (difK m (2 ^ n) : Nat)) ∧ w = w' := by
  have h1 := wrapK (show n < 11 by omega)
  have h2 : bits BinOp.andNot IntKind.u64 (m : Int) (2 ^ n) = ((difK m (2 ^ n) : Nat) : Int) := by rw [powi]; exact bits_notK hm (powK hn).1
  go_enter Try.func72, Try.ntmps72
  go_wp2_with fail
  go_ret
  exact ⟨rfl, rfl⟩
set_option maxRecDepth 100000 in
set_option maxHeartbeats 1000000 in
theorem kHas_any (m n : Nat) (hm : m < 1024) (hn : n < 10) (w : World) : Calls Try.prog 107 #[.int .u64 m, .int .i64 n] w fun e w' => e = .returned (.bool (m.testBit n)) ∧ w = w' := by
  have h1 := wrapK (show n < 11 by omega)
  have h2 : bits BinOp.and IntKind.u64 (m : Int) (2 ^ n) = ((m &&& 2 ^ n : Nat) : Int) := by rw [powi]; exact bits_andK hm (powK hn).1
  have h3 := hasK m hm n hn
  go_enter Try.func107, Try.ntmps107
  go_wp2_with fail
  go_ret
  exact ⟨ret_bool (natne.trans h3), rfl⟩
set_option maxRecDepth 100000 in
set_option maxHeartbeats 1000000 in
theorem kIsPart_any (m n : Nat) (hm : m < 1024) (hn : n < 1024) (w : World) : Calls Try.prog 113 #[.int .u64 m, .int .u64 n] w fun e w' => e = .returned (.bool (difK m n == 0)) ∧ w = w' := by
  have h2 := bits_notK hm hn
  go_enter Try.func113, Try.ntmps113
  go_wp2_with fail
  go_ret
  exact ⟨ret_bool nateq, rfl⟩
set_option maxRecDepth 100000 in
set_option maxHeartbeats 1000000 in
theorem kBelow_any (n : Nat) (hn : n < 11) (w : World) : Calls Try.prog 104 #[.int .i64 n] w fun e w' => e = .returned (.int .u64 (2 ^ n - 1 : Nat)) ∧ w = w' := by
  have h1 := wrapK hn
  have h3 : 2 ^ n ≤ 2 ^ 10 := Nat.pow_le_pow_right (by omega) (by omega)
  have h4 : 1 ≤ 2 ^ n := Nat.one_le_two_pow
  have h2 : IntKind.u64.wrap ((2 : Int) ^ n - 1) = ((2 ^ n - 1 : Nat) : Int) := by
    rw [powi, show (((2 ^ n : Nat) : Int) - 1) = ((2 ^ n - 1 : Nat) : Int) by omega]; exact IntWalk.u64_in _ (by omega)
  go_enter Try.func104, Try.ntmps104
  go_wp2_with fail
  go_ret
  exact ⟨rfl, rfl⟩

/-- How many bits a number has, as the library counts them. -/
def ocK (m : Int) : Int :=
  let x1 := IntKind.u64.wrap (bits BinOp.and IntKind.u64 (m / 2) 6148914691236517205 + bits BinOp.and IntKind.u64 m 6148914691236517205)
  let x2 := IntKind.u64.wrap (bits BinOp.and IntKind.u64 (x1 / 4) 3689348814741910323 + bits BinOp.and IntKind.u64 x1 3689348814741910323)
  let x3 := bits BinOp.and IntKind.u64 (IntKind.u64.wrap (x2 / 16 + x2)) 1085102592571150095
  let x4 := IntKind.u64.wrap (x3 + x3 / 256)
  let x5 := IntKind.u64.wrap (x4 + x4 / 65536)
  let x6 := IntKind.u64.wrap (x5 + x5 / 4294967296)
  bits BinOp.and IntKind.i64 (wrap64 x6) 127
set_option maxRecDepth 100000 in
theorem ocK_all : ∀ m, m < 1024 → ocK (m : Nat) = (szK m : Int) := by decide +kernel

set_option maxRecDepth 100000 in
set_option maxHeartbeats 2000000 in
theorem kOnes64_any (m : Nat) (hm : m < 1024) (w : World) :
    Calls Try.prog 127 #[.int .u64 m] w fun e w' => e = .returned (.int .i64 (szK m)) ∧ w = w' := by
  go_enter Try.func127, Try.ntmps127
  go_wp2_with fail
  go_ret
  exact ⟨congrArg (fun x => Ending.returned (Value.int .i64 x)) (ocK_all m hm), rfl⟩
set_option maxRecDepth 100000 in
set_option maxHeartbeats 1000000 in
theorem kSize_any (m : Nat) (hm : m < 1024) (w : World) :
    Calls Try.prog 80 #[.int .u64 m] w fun e w' => e = .returned (.int .i64 (szK m)) ∧ w = w' := by
  have H1 := Lib.hid (show Calls Try.prog 116 #[.int .u64 m] w fun e w' => e = .returned (.int .i64 (szK m)) ∧ w = w' from by
    have H0 := Lib.hid (kOnes64_any m hm w)
    generalize (szK m : Int) = R at H0 ⊢
    go_enter Try.func116, Try.ntmps116
    go_wp2_with fail
    refine H0.out.mono ?_
    rintro e w' ⟨rfl, rfl⟩
    go_wp2_with fail
    go_ret
    exact ⟨rfl, rfl⟩)
  generalize (szK m : Int) = R at H1 ⊢
  go_enter Try.func80, Try.ntmps80
  go_wp2_with fail
  refine H1.out.mono ?_
  rintro e w' ⟨rfl, rfl⟩
  go_wp2_with fail
  go_ret
  exact ⟨rfl, rfl⟩

end Go.Proofs.Ytmigkbimdjiigaa

/- Lists of masks of kit: contracts. -/
set_option linter.unusedVariables false
set_option linter.unusedSimpArgs false
namespace Go.Proofs.Ytmigkbimdjiigaa
open Go.RowKit Tinker Go.Shelf

def kbits_ren : Go.Shelf.Ren := ⟨fun | 125 => 106 | 128 => 123 | 129 => 124 | n => n, fun | 3 => 3 | 4 => 4 | 5 => 5 | 9 => 9 | 46 => 50 | 51 => 105 | 53 => 107 | n => n, fun | n => n⟩
theorem kbits : Go.Proofs.Lays.n125 Try.prog kbits_ren := {
  mixed := by kernel_rfl
  f125 := Try.func106.trans (congrArg some (by kernel_rfl))
  f128 := Try.func123.trans (congrArg some (by kernel_rfl))
  f129 := Try.func124.trans (congrArg some (by kernel_rfl))
  t3 := Try.underlying3
  a3 := Try.isAgg3
  z3 := Try.sizeOf3
  v3 := Try.zeroValue3
  t4 := Try.underlying4
  a4 := Try.isAgg4
  z4 := Try.sizeOf4
  v4 := Try.zeroValue4
  t5 := Try.underlying5
  a5 := Try.isAgg5
  z5 := Try.sizeOf5
  v5 := Try.zeroValue5
  t9 := Try.underlying9
  a9 := Try.isAgg9
  z9 := Try.sizeOf9
  v9 := Try.zeroValue9
  t46 := Try.underlying50
  a46 := Try.isAgg50
  z46 := Try.sizeOf50
  v46 := Try.zeroValue50
  t51 := Try.underlying105
  a51 := Try.isAgg105
  z51 := Try.sizeOf105
  v51 := Try.zeroValue105
  t53 := Try.underlying107
  a53 := Try.isAgg107
  z53 := Try.sizeOf107
  v53 := Try.zeroValue107 }
set_option maxRecDepth 100000 in
theorem lnK : ∀ m, m < 1024 → Lib.bitLen m ≤ 10 ∧ m < 2 ^ Lib.bitLen m := by decide +kernel
theorem kLen_any (m : Nat) (hm : m < 1024) (w : World) :
    Calls Try.prog 106 #[.int .u64 m] w fun e w' => e = .returned (.int .i64 (Lib.bitLen m)) ∧ w = w' := by
  have h := Any.bits_Len kbits (m : Int) w (by omega) (by omega)
  refine h.mono ?_
  rintro e w' ⟨rfl, rfl⟩
  exact ⟨rfl, rfl⟩
/-- The numbers of a mask that are below k. -/
def nmK (m k : Nat) : List Int := ((List.range k).filter (fun n => m.testBit n)).map (fun n : Nat => (n : Int))
theorem nmK_yes {m k : Nat} (h : m.testBit k = true) : nmK m (k + 1) = nmK m k ++ [(k : Int)] := by
  unfold nmK; rw [List.range_succ, List.filter_append, List.map_append]; simp [h]
theorem nmK_no {m k : Nat} (h : m.testBit k = false) : nmK m (k + 1) = nmK m k := by
  unfold nmK; rw [List.range_succ, List.filter_append, List.map_append]; simp [h]
theorem nmK_len (m k : Nat) : (nmK m k).length ≤ k := by
  unfold nmK; rw [List.length_map]; exact Nat.le_trans (List.length_filter_le _ _) (by simp)
theorem nmK_end {m : Nat} (hm : m < 1024) : nmK m (Lib.bitLen m) = numsK m := by
  obtain ⟨h1, h2⟩ := lnK m hm
  show nmK m _ = nmK m 10
  obtain ⟨d, hd⟩ : ∃ d, 10 = Lib.bitLen m + d := ⟨10 - Lib.bitLen m, by omega⟩
  rw [hd]
  clear hd h1
  induction d with
  | zero => rfl
  | succ d ih =>
    rw [← Nat.add_assoc, nmK_no, ih]
    exact Nat.testBit_lt_two_pow (Nat.lt_of_lt_of_le h2 (Nat.pow_le_pow_right (by omega) (by omega)))

set_option maxRecDepth 100000 in
set_option maxHeartbeats 1000000 in
theorem kNumbers_any (m : Nat) (hm : m < 1024) (w : World) :
    Calls Try.prog 59 #[.int .u64 m] w (GivesInts (numsK m) w) := by
  obtain ⟨i0, hi, hz0, hz1, hz2⟩ := info_parts info_int
  have HL := Lib.hid (kLen_any m hm w)
  have HE := Lib.hid (nmK_end hm)
  obtain ⟨hk10, _⟩ := lnK m hm
  rw [← HE.out]
  clear HE
  generalize Lib.bitLen m = K at HL hk10 ⊢
  go_enter Try.func59, Try.ntmps59
  go_wp2_with fail
  refine HL.out.mono ?_
  rintro e w' ⟨rfl, rfl⟩
  go_wp2_with fail
  go_loopw [3, 7] (fun s3 s7 wr => ∃ k : Nat, k ≤ K ∧ s7 = .int .i64 k ∧ wr.ownsRow w.heap.size 3 1 s3 (nmK m k).length ((nmK m k).map (Value.int .i64)) ∧ Below w.heap.size w wr) (fun _ s7 _ => K - (intOf s7).toNat)
  case atStart => exact ⟨0, Nat.zero_le _, rfl, World.ownsRow_nil _ _ _ _, Below.refl _ _⟩
  case round =>
    clear HL
    obtain ⟨k, hk, rfl, hown, hB⟩ := hrel
    have hl := nmK_len m k
    by_cases hlt : k < K
    · have HH := Lib.hid (kHas_any m k hm (by omega) wr)
      cases hx : m.testBit k
      · have HO := Lib.hid hown
        have HX := Lib.hid hx
        rw [hx] at HH
        clear hown hx
        go_wp2_with fail
        refine HH.out.mono ?_
        rintro e w' ⟨rfl, rfl⟩
        go_wp2_with fail
        go_roundw
        case rel => exact ⟨k + 1, by omega, by go_num, by rw [nmK_no HX.out]; exact HO.out, hB⟩
        case measure => simp [intOf]; omega
      · have HX := Lib.hid hx
        rw [hx] at HH
        clear hx
        go_wp2_with fail
        refine HH.out.mono ?_
        rintro e w' ⟨rfl, rfl⟩
        go_wp2_with (at_builtin; refine wpList_append_own _ rfl (.tmp 13) (.tmp 15) 23 rfl w.heap.size 3 i0 (.int .i64 0) 1 8 Try.underlying23 hi hz0 hz1 hz2 rfl (by decide) _ _ _ rfl (hown.alloc _) ⟨wr.heap.size, 0, none⟩ 1 1 [.int .i64 k] rfl rfl ?c1 ?c2 ?c3 ?c4 ?c5 ?_)
        case c1 => exact cell_one_new _ _ _
        case c2 => simp [Value.oneCell']
        case c3 => unfold maxLen; omega
        case c4 => omega
        case c5 => have := hB.size; simp; omega
        intro v' w1 hown' hgrow _
        have hB1 : Below w.heap.size w w1 := (hB.alloc hB.size _).grown hgrow (by have := hB.size; simp; omega) (own_base hown)
        have e : (nmK m k).map (Value.int .i64) ++ [.int .i64 k] = (nmK m (k + 1)).map (Value.int .i64) := by rw [nmK_yes HX.out]; simp
        have e2 : (nmK m k).length + 1 = (nmK m (k + 1)).length := by rw [nmK_yes HX.out]; simp
        rw [e, e2] at hown'
        have HO := Lib.hid hown'
        clear hown hown' hgrow e e2
        go_wp2_with fail
        go_roundw
        case rel => exact ⟨k + 1, by omega, by go_num, HO.out, hB1⟩
        case measure => simp [intOf]; omega
    · obtain rfl : k = K := by omega
      have HO := Lib.hid hown
      clear hown
      go_wp2_with fail
      go_ret
      exact givesInts_of rfl HO.out hB

set_option maxRecDepth 100000 in
set_option maxHeartbeats 1000000 in
theorem kMaskOf_any (a : Option Addr) (cap : Nat) (zs : List Int) (w : World) (hz : IntsAt w a zs) (hv : ∀ x ∈ zs, 0 ≤ x ∧ x < 10) (hm : zs.length ≤ 1000) :
    Calls Try.prog 63 #[.slice a zs.length cap] w fun e w' => e = .returned (.int .u64 (maskM zs)) ∧ w = w' := by
  have HV := Lib.hid hv
  clear hv
  go_enter Try.func63, Try.ntmps63
  go_wp2_with fail
  go_loop [3, 8] (fun s3 s8 => ∃ k : Nat, k ≤ zs.length ∧ s8 = .int .i64 k ∧ s3 = .int .u64 (maskM (zs.take k))) (fun _ s8 => zs.length - (intOf s8).toNat)
  case atStart => exact ⟨0, Nat.zero_le _, rfl, rfl⟩
  case round =>
    obtain ⟨k, hk, rfl, rfl⟩ := hrel
    by_cases hlt : k < zs.length
    · obtain ⟨b, off, x, rfl, hlb, hl, h0⟩ := hz.at_ hlt
      obtain ⟨x0, x9⟩ := HV.out x (mem_of_get hl)
      obtain ⟨n, rfl⟩ : ∃ n : Nat, x = (n : Int) := ⟨x.toNat, by omega⟩
      have HT := Lib.hid (maskM_take hl)
      have HM := Lib.hid (kWith_any (maskM (zs.take k)) n (maskM_ltK (fun x hx => HV.out x (List.mem_of_mem_take hx))) (by omega) w)
      rw [show ((n : Int)).toNat = n from rfl] at HT
      generalize maskM (zs.take k) = M at HT HM
      clear hz hl
      go_wp2_with fail
      refine HM.out.mono ?_
      rintro e w' ⟨rfl, rfl⟩
      go_wp2_with fail
      go_round
      case rel => exact ⟨k + 1, by omega, by go_num, by rw [HT.out]⟩
      case measure => simp [intOf]; omega
    · obtain rfl : k = zs.length := by omega
      rw [List.take_length]
      go_wp2_with fail
      go_ret
      exact ⟨rfl, rfl⟩

end Go.Proofs.Ytmigkbimdjiigaa

/- Suites of the code: valid ones, rows as masks, what rows meet: contracts. -/
set_option linter.unusedVariables false
set_option linter.unusedSimpArgs false
namespace Go.Proofs.Ytmigkbimdjiigaa
open Go.RowKit Tinker

theorem sGoals_any (a : Option Addr) (cap : Nat) (t : List (List Int)) (w : World) (ht : RowsAt w a t) :
    Calls Try.prog 66 #[.slice a t.length cap] w fun e w' => e = .returned (.int .i64 (goalsN t)) ∧ w = w' := by
  rcases Nat.eq_zero_or_pos t.length with h0 | h0
  · have ht0 : t = [] := List.eq_nil_of_length_eq_zero h0
    subst ht0
    have e0 : ((0 : Nat) : Int) = 0 := rfl
    rw [goals_nil]
    clear ht h0
    go_enter Try.func66, Try.ntmps66
    go_wp2_with fail
    go_ret
    exact ⟨rfl, rfl⟩
  · obtain ⟨b, off, z, a1, c1, rfl, hlb, hz, c0, hi⟩ := ht.at_ h0
    have HG := Lib.hid (goals_at hz)
    rw [HG.out]
    have hne : ((t.length : Int) == 0) = false := by rw [beq_eq_false_iff_ne]; omega
    rw [Nat.add_zero] at c0
    clear HG hz hi ht
    go_enter Try.func66, Try.ntmps66
    go_wp2_with fail
    go_ret
    exact ⟨rfl, rfl⟩

set_option maxRecDepth 100000 in
set_option maxHeartbeats 1000000 in
theorem sValidate_any (a : Option Addr) (cap : Nat) (t : List (List Int)) (w : World) (ht : RowsAt w a t) (hl : t.length ≤ 1000) (hm : ∀ z ∈ t, z.length ≤ 1000) :
    Calls Try.prog 23 #[.slice a t.length cap] w fun e w' => e = .returned (.int .i64 (vsu t)) ∧ w = w' := by
  have HG := Lib.hid (sGoals_any a cap t w ht)
  have HT := Lib.hid ht
  have HM := Lib.hid hm
  obtain ⟨G, hG⟩ : ∃ G, G = goalsN t := ⟨_, rfl⟩
  rw [← hG] at HG
  by_cases h8 : 8 < t.length
  · have h8i : decide ((8 : Int) < (t.length : Int)) = true := by simp; omega
    rw [vsu_large (.inl h8)]
    clear ht hm hG
    go_enter Try.func23, Try.ntmps23
    go_wp2_with fail
    go_ret
    exact ⟨rfl, rfl⟩
  · have h8i : decide ((8 : Int) < (t.length : Int)) = false := by simp; omega
    by_cases h10 : 10 < G
    · have h10i : decide ((10 : Int) < (G : Int)) = true := by simp; omega
      rw [vsu_large (.inr (by omega))]
      clear ht hm hG
      go_enter Try.func23, Try.ntmps23
      go_wp2_with fail
      refine HG.out.mono ?_
      rintro e w' ⟨rfl, rfl⟩
      go_wp2_with fail
      go_ret
      exact ⟨rfl, rfl⟩
    · have h10i : decide ((10 : Int) < (G : Int)) = false := by simp; omega
      have HN := Lib.hid (show ¬ (8 < t.length ∨ 10 < goalsN t) by omega)
      have HGG := Lib.hid hG
      clear ht hm hG
      go_enter Try.func23, Try.ntmps23
      go_wp2_with fail
      refine HG.out.mono ?_
      rintro e w' ⟨rfl, rfl⟩
      go_wp2_with fail
      go_loop [15] (fun i => ∃ k : Nat, k ≤ t.length ∧ i = .int .i64 k ∧ (t.take k).all (rowB G) = true) (fun i => t.length - (intOf i).toNat)
      case atStart => exact ⟨0, Nat.zero_le _, rfl, by simp⟩
      case round =>
        clear h8i h10i
        obtain ⟨k, hk, rfl, hall⟩ := hrel
        have HA := Lib.hid hall
        clear hall
        by_cases hlt : k < t.length
        · obtain ⟨b, off, z, a1, c1, rfl, hlb, hz, c0, hi⟩ := HT.out.at_ hlt
          have HZ := Lib.hid hz
          have HB := Lib.hid (areBetween_any a1 c1 z 0 1 w hi (by have := HM.out z (mem_of_get hz); omega))
          clear hz hi
          by_cases hne : z.length = G
          · have hd : ((z.length : Int) != (G : Int)) = false := by simp; omega
            have HNE := Lib.hid hne
            clear hne
            cases hb : allBtw z 0 1
            · have HQ := Lib.hid (show rowB G z = false by unfold rowB; rw [hb, Bool.and_false])
              rw [hb] at HB
              clear hb
              go_wp2_with fail
              refine HG.out.mono ?_
              rintro e w' ⟨rfl, rfl⟩
              go_wp2_with fail
              refine HB.out.mono ?_
              rintro e w' ⟨rfl, rfl⟩
              go_wp2_with fail
              go_ret
              exact ⟨ret_int (vsu_bad HN.out (by rw [← HGG.out]; exact all_not HZ.out HQ.out)).symm, rfl⟩
            · have HQ := Lib.hid (show rowB G z = true by unfold rowB; rw [hb, Bool.and_true]; exact beq_iff_eq.2 HNE.out)
              rw [hb] at HB
              clear hb
              go_wp2_with fail
              refine HG.out.mono ?_
              rintro e w' ⟨rfl, rfl⟩
              go_wp2_with fail
              refine HB.out.mono ?_
              rintro e w' ⟨rfl, rfl⟩
              go_wp2_with fail
              go_round
              case rel => exact ⟨k + 1, by omega, by go_num, all_snoc HA.out HZ.out HQ.out⟩
              case measure => simp [intOf]; omega
          · have hd : ((z.length : Int) != (G : Int)) = true := by simp; omega
            have HQ := Lib.hid (show rowB G z = false by unfold rowB; rw [show (z.length == G) = false by simpa using hne, Bool.false_and])
            clear hne
            go_wp2_with fail
            refine HG.out.mono ?_
            rintro e w' ⟨rfl, rfl⟩
            go_wp2_with fail
            go_ret
            exact ⟨ret_int (vsu_bad HN.out (by rw [← HGG.out]; exact all_not HZ.out HQ.out)).symm, rfl⟩
        · go_wp2_with fail
          go_ret
          exact ⟨ret_int (vsu_good HN.out (by rw [← HGG.out]; exact all_whole HA.out hlt)).symm, rfl⟩

theorem info_kmask : (Try.prog.info? 51).map (fun i => (i.zero, i.size, i.bytes)) = some (some (.int .u64 0), 1, 8) := by kernel_rfl
theorem mkTable (n : Nat) (hn : n ≤ 1000) (w : World) : (Instr.makeSlice 53 (.int .i64 (n : Int)) (.int .i64 (n : Int))).run Try.prog w = .ok (.slice (some ⟨w.heap.size, 0, none⟩) n n) (w.alloc (.cells (uv (List.replicate n 0)).toArray 51)) := by
  obtain ⟨i0, hi, hz0, hz1, hz2⟩ := info_parts info_kmask
  have h := run_make w 53 51 i0 (.int .u64 0) Try.underlying53 hi hz0 .i64 .i64 n n (by omega) (by omega) (by rw [hz2]; omega) (by omega)
  rw [hz1] at h
  rw [h]
  show Result.ok _ (w.alloc (.cells (madeCells #[Value.int .u64 0] _) _)) = _
  rw [madeCells_one]
  simp [uv]
/-- A block of masks. -/
structure UvI (M : Nat) (ms : List Nat) (w W : World) : Prop where
  bm : W.heap[M]? = some (.cells (uv ms).toArray 51 (0, 0))
  hM : w.heap.size ≤ M
  below : Below w.heap.size w W
theorem UvI.low {M : Nat} {ms : List Nat} {w W W' : World} (h : UvI M ms w W) (hb : Below W.heap.size W W') : UvI M ms w W' :=
  ⟨hp_below h.bm hb (hp_lt h.bm), h.hM, h.below.trans (hb.mono h.below.size)⟩
theorem UvI.cell {M : Nat} {ms : List Nat} {w W : World} (h : UvI M ms w W) {k m : Nat} (hk : ms[k]? = some m) : W.cell? ⟨M, k, none⟩ = some (.int .u64 m) :=
  hp_cell h.bm (by simpa using uv_get hk)
theorem UvI.put {M : Nat} {ms : List Nat} {w W : World} (h : UvI M ms w W) (k m : Nat) : UvI M (ms.set k m) w (W.setCell ⟨M, k, none⟩ (.int .u64 m)) := by
  refine ⟨?_, h.hM, h.below.setCell (p := ⟨M, _, none⟩) h.hM _⟩
  have := hp_put h.bm k (.int .u64 m)
  rw [List.setIfInBounds_toArray] at this
  rw [this]
  have e : (uv ms).set k (.int .u64 m) = uv (ms.set k m) := by unfold uv; rw [List.map_set]
  rw [e]
theorem UvI.at_ {M : Nat} {ms : List Nat} {w W : World} (h : UvI M ms w W) : MskAt W (some ⟨M, 0, none⟩) ms :=
  .inr ⟨M, 0, rfl, hp_lt h.bm, fun j n hj => by rw [Nat.zero_add]; exact h.cell hj⟩
theorem uvI_new (w : World) (n : Nat) : UvI w.heap.size (List.replicate n 0) w (w.alloc (.cells (uv (List.replicate n 0)).toArray 51)) :=
  ⟨hp_new rfl, Nat.le_refl _, (Below.refl _ _).alloc (Nat.le_refl _) _⟩
theorem set_kept {α : Type} {l : List α} {k : Nat} {x : α} (h : l[k]? = some x) : l.set k x = l := by
  obtain ⟨hlt, rfl⟩ := List.getElem?_eq_some_iff.1 h
  exact List.set_getElem_self hlt
/-- What is laid when k rows are done, and j numbers of the next one. -/
def partM (t : List (List Int)) (k : Nat) : List Nat := (t.take k).map rowM ++ List.replicate (t.length - k) 0
theorem partM_at {t : List (List Int)} {k : Nat} (h : k < t.length) : (partM t k)[k]? = some 0 := by
  unfold partM
  rw [List.getElem?_append_right (by simp; omega), List.getElem?_replicate, if_pos (by simp; omega)]
theorem partM_next {t : List (List Int)} {k : Nat} {z : List Int} (h : t[k]? = some z) : (partM t k).set k (rowM z) = partM t (k + 1) := by
  have hlt := (List.getElem?_eq_some_iff.1 h).1
  unfold partM
  rw [List.set_append_right _ _ (by simp; omega), show t.length - k = (t.length - (k + 1)) + 1 by omega, List.replicate_succ, List.take_add_one, h, List.map_append]
  simp [show k - min k t.length = 0 by omega]
theorem partM_end (t : List (List Int)) : partM t t.length = tblM t := by simp [partM, tblM]
theorem mskTo_one {p : Nat → Bool} {n : Nat} (h : p n = true) : mskTo p (n + 1) = mskTo p n ||| 2 ^ n := by rw [mskTo, if_pos h]
theorem mskTo_not {p : Nat → Bool} {n : Nat} (h : p n = false) : mskTo p (n + 1) = mskTo p n := by rw [mskTo, if_neg (by simp [h])]

set_option maxRecDepth 100000 in
set_option maxHeartbeats 2000000 in
theorem tableOf_any (a : Option Addr) (cap : Nat) (t : List (List Int)) (w : World) (ht : RowsAt w a t) (hz : vsu t = 0) :
    Calls Try.prog 57 #[.slice a t.length cap] w (GivesMsk (tblM t) w) := by
  obtain ⟨hl8, hg10, hrow⟩ := vsu_ok hz
  have hmk := mkTable t.length (by omega)
  have HR := Lib.hid hrow
  have HT := Lib.hid ht
  clear hrow ht hz
  go_enter Try.func57, Try.ntmps57
  go_wp2_with fail
  go_loopw [13] (fun s13 wr => ∃ k : Nat, k ≤ t.length ∧ s13 = .int .i64 k ∧ UvI w.heap.size (partM t k) w wr) (fun s13 _ => t.length - (intOf s13).toNat)
  case atStart => exact ⟨0, Nat.zero_le _, rfl, by have := uvI_new w t.length; simpa [partM] using this⟩
  case round =>
    obtain ⟨k, hk, rfl, hI⟩ := hrel
    by_cases hlt : k < t.length
    · obtain ⟨b, off, z, a1, c1, rfl, hlb, hs, h0', hi⟩ := HT.out.at_ hlt
      have h0 := (hI.below.cell (p := ⟨b, off + k, none⟩) hlb).trans h0'
      clear h0'
      have hlz : z.length ≤ 10 := by have := (HR.out z (mem_of_get hs)).1; omega
      have HS := Lib.hid hs
      have HZ := Lib.hid (hi)
      have HP := Lib.hid (partM_at hlt)
      have HI := Lib.hid hI
      clear hs hi hI
      obtain ⟨W0, hW0⟩ : ∃ W, W = wr := ⟨_, rfl⟩
      subst hW0
      go_wp2_with fail
      go_loopw [20] (fun s20 wx => ∃ j : Nat, j ≤ z.length ∧ s20 = .int .i64 j ∧ UvI w.heap.size ((partM t k).set k (mskTo (fun g => z.getD g 0 == 1) j)) w wx) (fun s20 _ => z.length - (intOf s20).toNat)
      case atStart =>
        refine ⟨0, Nat.zero_le _, rfl, ?_⟩
        have : (partM t k).set k (mskTo (fun g => z.getD g 0 == 1) 0) = partM t k := by
          show (partM t k).set k 0 = _
          exact set_kept HP.out
        rw [this]; exact HI.out
      case round =>
        obtain ⟨j, hj, rfl, hIx⟩ := hrel
        have HIX := Lib.hid hIx
        have HZX := Lib.hid (HZ.out.below hIx.below (Nat.le_refl _))
        clear hIx
        by_cases hjl : j < z.length
        · obtain ⟨b2, off2, x, rfl, hlb2, hx, hc⟩ := HZX.out.at_ hjl
          have hm0 := HIX.out.cell (k := k) (m := mskTo (fun g => z.getD g 0 == 1) j) (by rw [List.getElem?_set_self (by have := (List.getElem?_eq_some_iff.1 HP.out).1; omega)])
          have hlm : mskTo (fun g => z.getD g 0 == 1) j < 1024 := mskTo_lt _ _ (by omega)
          have hxg : z.getD j 0 = x := getD_of_get hx
          clear hx
          by_cases hx1 : x = 1
          · subst hx1
            have HQ := Lib.hid (mskTo_one (p := fun g => z.getD g 0 == 1) (n := j) (by show (z.getD j 0 == 1) = true; rw [hxg]; rfl))
            have HM := Lib.hid (kWith_any (mskTo (fun g => z.getD g 0 == 1) j) j hlm (by omega) wr)
            have HPT := Lib.hid (HIX.out.put k (mskTo (fun g => z.getD g 0 == 1) j ||| 2 ^ j))
            rw [List.set_set, ← HQ.out] at HPT
            have m2 := hp_free HIX.out.bm k
            rw [HQ.out] at HPT
            have HQ2 := Lib.hid HQ.out
            generalize mskTo (fun g => z.getD g 0 == 1) j = M at HM HPT hm0 HQ2 hlm
            clear hxg HQ HIX HZX
            go_wp2_with fail
            refine HM.out.mono ?_
            rintro e w' ⟨rfl, rfl⟩
            go_wp2_with fail
            go_roundw
            case rel => exact ⟨j + 1, by omega, by go_num, by rw [HQ2.out]; exact HPT.out⟩
            case measure => simp [intOf]; omega
          · have hx2 : (x == 1) = false := by simpa using hx1
            have HQ := Lib.hid (mskTo_not (p := fun g => z.getD g 0 == 1) (n := j) (by show (z.getD j 0 == 1) = false; rw [hxg]; exact hx2))
            clear hxg hx1 hm0 hlm
            go_wp2_with fail
            go_roundw
            case rel => exact ⟨j + 1, by omega, by go_num, by rw [HQ.out]; exact HIX.out⟩
            case measure => simp [intOf]; omega
        · obtain rfl : j = z.length := by omega
          have HN := Lib.hid HIX.out
          rw [show mskTo (fun g => z.getD g 0 == 1) z.length = rowM z from rfl, partM_next HS.out] at HN
          clear HIX HZX HI
          go_wp2_with fail
          go_roundw
          case rel => exact ⟨k + 1, by omega, by go_num, HN.out⟩
          case measure => simp [intOf]; omega
    · obtain rfl : k = t.length := by omega
      rw [partM_end] at hI
      have HI := Lib.hid hI
      clear hI
      go_wp2_with fail
      go_ret
      exact ⟨some ⟨w.heap.size, 0, none⟩, t.length, by rw [tblM_len]; rfl, HI.out.at_, HI.out.below⟩

set_option maxRecDepth 100000 in
set_option maxHeartbeats 1000000 in
theorem tRows_any (a : Option Addr) (cap : Nat) (s : List Nat) (w : World) (hl : s.length ≤ 8) :
    Calls Try.prog 71 #[.slice a s.length cap] w fun e w' => e = .returned (.int .u64 (fullM s)) ∧ w = w' := by
  have HB := Lib.hid (kBelow_any s.length (by omega) w)
  rw [show (2 ^ s.length - 1 : Nat) = fullM s from rfl] at HB
  generalize fullM s = F at HB ⊢
  go_enter Try.func71, Try.ntmps71
  go_wp2_with fail
  refine HB.out.mono ?_
  rintro e w' ⟨rfl, rfl⟩
  go_wp2_with fail
  go_ret
  exact ⟨rfl, rfl⟩
set_option maxRecDepth 100000 in
set_option maxHeartbeats 1000000 in
theorem tMet_any (a : Option Addr) (cap : Nat) (s : List Nat) (S : Nat) (w : World) (hs : MskAt w a s) (hl : s.length ≤ 8) (hv : ∀ x ∈ s, x < 1024) (hS : S < 1024) :
    Calls Try.prog 62 #[.slice a s.length cap, .int .u64 S] w fun e w' => e = .returned (.int .u64 (metM s S)) ∧ w = w' := by
  have HS := Lib.hid hs
  have HV := Lib.hid hv
  clear hs hv
  go_enter Try.func62, Try.ntmps62
  go_wp2_with fail
  go_loop [5, 10] (fun s5 s10 => ∃ k : Nat, k ≤ s.length ∧ s10 = .int .i64 k ∧ s5 = .int .u64 (metTo s S k)) (fun _ s10 => s.length - (intOf s10).toNat)
  case atStart => exact ⟨0, Nat.zero_le _, rfl, rfl⟩
  case round =>
    obtain ⟨k, hk, rfl, rfl⟩ := hrel
    by_cases hlt : k < s.length
    · obtain ⟨b, off, x, rfl, hlb, hx, h0⟩ := HS.out.at_ hlt
      have HH := Lib.hid (kHas_any S k hS (by omega) w)
      have hxx : s.getD k 0 = x := getD_of_get hx
      have hx10 := HV.out x (mem_of_get hx)
      have hM := metTo_lt HV.out S k
      clear hx
      cases hb : S.testBit k
      · have HQ := Lib.hid (show metTo s S (k + 1) = metTo s S k by rw [metTo, hb, if_neg (by decide)])
        rw [hb] at HH
        generalize metTo s S k = M at HQ hM
        clear hb hxx
        go_wp2_with fail
        refine HH.out.mono ?_
        rintro e w' ⟨rfl, rfl⟩
        go_wp2_with fail
        go_round
        case rel => exact ⟨k + 1, by omega, by go_num, by rw [HQ.out]⟩
        case measure => simp [intOf]; omega
      · have HQ := Lib.hid (show metTo s S (k + 1) = metTo s S k ||| x by rw [metTo, hb, if_pos rfl, hxx])
        have h2 := bits_orK hM hx10
        rw [hb] at HH
        generalize metTo s S k = M at HQ hM h2
        clear hb hxx
        go_wp2_with fail
        refine HH.out.mono ?_
        rintro e w' ⟨rfl, rfl⟩
        go_wp2_with fail
        go_round
        case rel => exact ⟨k + 1, by omega, by go_num, by rw [HQ.out]⟩
        case measure => simp [intOf]; omega
    · obtain rfl : k = s.length := by omega
      go_wp2_with fail
      go_ret
      exact ⟨rfl, rfl⟩
set_option maxRecDepth 100000 in
set_option maxHeartbeats 1000000 in
theorem tOpen_any (a : Option Addr) (cap : Nat) (s : List Nat) (w : World) (hs : MskAt w a s) (hl : s.length ≤ 8) (hv : ∀ x ∈ s, x < 1024) :
    Calls Try.prog 58 #[.slice a s.length cap] w fun e w' => e = .returned (.int .u64 (openM s)) ∧ w = w' := by
  have HR := Lib.hid (tRows_any a cap s w hl)
  have HM := Lib.hid (tMet_any a cap s (fullM s) w hs hl hv (by have := full_lt hl; omega))
  rw [show metM s (fullM s) = openM s from rfl] at HM
  clear hs hv hl
  go_enter Try.func58, Try.ntmps58
  go_wp2_with fail
  refine HR.out.mono ?_
  rintro e w' ⟨rfl, rfl⟩
  go_wp2_with fail
  refine HM.out.mono ?_
  rintro e w' ⟨rfl, rfl⟩
  go_wp2_with fail
  go_ret
  exact ⟨rfl, rfl⟩
set_option maxRecDepth 100000 in
set_option maxHeartbeats 1000000 in
theorem tLeft_any (a : Option Addr) (cap : Nat) (s : List Nat) (S : Nat) (w : World) (hs : MskAt w a s) (hl : s.length ≤ 8) (hv : ∀ x ∈ s, x < 1024) (hS : S < 1024) :
    Calls Try.prog 100 #[.slice a s.length cap, .int .u64 S] w fun e w' => e = .returned (.int .u64 (leftM s S)) ∧ w = w' := by
  have HO := Lib.hid (tOpen_any a cap s w hs hl hv)
  have HM := Lib.hid (tMet_any a cap s S w hs hl hv hS)
  have h2 : bits BinOp.andNot IntKind.u64 (openM s : Int) (metM s S : Int) = ((leftM s S : Nat) : Int) := bits_notK (openM_lt hv) (metM_lt hv S)
  generalize openM s = O at HO h2
  generalize metM s S = M at HM h2
  clear hs hv hl hS
  go_enter Try.func100, Try.ntmps100
  go_wp2_with fail
  refine HO.out.mono ?_
  rintro e w' ⟨rfl, rfl⟩
  go_wp2_with fail
  refine HM.out.mono ?_
  rintro e w' ⟨rfl, rfl⟩
  go_wp2_with fail
  go_ret
  exact ⟨rfl, rfl⟩
set_option maxRecDepth 100000 in
set_option maxHeartbeats 1000000 in
theorem tCover_any (a : Option Addr) (cap : Nat) (s : List Nat) (S : Nat) (w : World) (hs : MskAt w a s) (hl : s.length ≤ 8) (hv : ∀ x ∈ s, x < 1024) (hS : S < 1024) :
    Calls Try.prog 68 #[.slice a s.length cap, .int .u64 S] w fun e w' => e = .returned (.bool (covB s S)) ∧ w = w' := by
  have HM := Lib.hid (tLeft_any a cap s S w hs hl hv hS)
  have h2 : ((leftM s S : Int) == 0) = covB s S := nateq
  generalize leftM s S = M at HM h2
  clear hs hv hl hS
  go_enter Try.func68, Try.ntmps68
  go_wp2_with fail
  refine HM.out.mono ?_
  rintro e w' ⟨rfl, rfl⟩
  go_wp2_with fail
  go_ret
  exact ⟨rfl, rfl⟩

end Go.Proofs.Ytmigkbimdjiigaa
