/- Several texts in one. -/
import Derived.Test.YtmigkbimdjiigaaMskB
import Derived.Test.YtmigkbimdjiigaaTabA
/- Leaves of blame: bits of masks: contracts. -/
set_option linter.unusedVariables false
set_option linter.unusedSimpArgs false
namespace Go.Proofs.Ytmigkbimdjiigaa
open Go.RowKit Tinker

theorem pow8 {n : Nat} (h : n < 8) : 2 ^ n < 256 ∧ 1 ≤ 2 ^ n :=
  ⟨Nat.lt_of_lt_of_le (Nat.pow_lt_pow_right (a := 2) (by omega) h) (by decide), Nat.one_le_two_pow⟩
theorem powi (n : Nat) : ((2 : Int) ^ n) = ((2 ^ n : Nat) : Int) := by simp
theorem wrap_pow {n : Nat} (h : n < 8) : IntKind.u64.wrap (2 ^ n) = ((2 ^ n : Nat) : Int) := by
  have := pow8 h
  have e : ((2 : Int) ^ n) = ((2 ^ n : Nat) : Int) := by simp
  rw [e]; exact IntWalk.u64_in _ (by omega)
theorem wrap_powi {n : Nat} (h : n < 8) : IntKind.i64.wrap (2 ^ n) = ((2 ^ n : Nat) : Int) := by
  have := pow8 h
  have e : ((2 : Int) ^ n) = ((2 ^ n : Nat) : Int) := by simp
  rw [e]; exact IntWalk.i64_in _ (by omega)
theorem bits_and_u {a b : Nat} (ha : a < 256) (hb : b < 256) : bits BinOp.and IntKind.u64 (a : Int) (b : Int) = ((a &&& b : Nat) : Int) := by
  show IntKind.u64.wrap (((BitVec.ofInt 64 (a : Int)) &&& (BitVec.ofInt 64 (b : Int))).toNat : Int) = _
  have : a &&& b ≤ a := Nat.and_le_left
  rw [BitVec.ofInt_natCast, BitVec.ofInt_natCast, BitVec.toNat_and, BitVec.toNat_ofNat, BitVec.toNat_ofNat, Nat.mod_eq_of_lt (by omega), Nat.mod_eq_of_lt (by omega), IntWalk.u64_in _ (by omega)]
theorem bits_and_i {a b : Nat} (ha : a < 256) (hb : b < 256) : bits BinOp.and IntKind.i64 (a : Int) (b : Int) = ((a &&& b : Nat) : Int) := by
  show IntKind.i64.wrap (((BitVec.ofInt 64 (a : Int)) &&& (BitVec.ofInt 64 (b : Int))).toNat : Int) = _
  have : a &&& b ≤ a := Nat.and_le_left
  rw [BitVec.ofInt_natCast, BitVec.ofInt_natCast, BitVec.toNat_and, BitVec.toNat_ofNat, BitVec.toNat_ofNat, Nat.mod_eq_of_lt (by omega), Nat.mod_eq_of_lt (by omega), IntWalk.i64_in _ (by omega)]
theorem or_lt {a b : Nat} (ha : a < 256) (hb : b < 256) : a ||| b < 256 := Nat.or_lt_two_pow (n := 8) ha hb
theorem and_lt8 {a b : Nat} (ha : a < 256) : a &&& b < 256 := Nat.lt_of_le_of_lt Nat.and_le_left ha
theorem bits_or_u {a b : Nat} (ha : a < 256) (hb : b < 256) : bits BinOp.or IntKind.u64 (a : Int) (b : Int) = ((a ||| b : Nat) : Int) := by
  show IntKind.u64.wrap (((BitVec.ofInt 64 (a : Int)) ||| (BitVec.ofInt 64 (b : Int))).toNat : Int) = _
  have := or_lt ha hb
  rw [BitVec.ofInt_natCast, BitVec.ofInt_natCast, BitVec.toNat_or, BitVec.toNat_ofNat, BitVec.toNat_ofNat, Nat.mod_eq_of_lt (by omega), Nat.mod_eq_of_lt (by omega), IntWalk.u64_in _ (by omega)]
theorem bits_or_i {a b : Nat} (ha : a < 256) (hb : b < 256) : bits BinOp.or IntKind.i64 (a : Int) (b : Int) = ((a ||| b : Nat) : Int) := by
  show IntKind.i64.wrap (((BitVec.ofInt 64 (a : Int)) ||| (BitVec.ofInt 64 (b : Int))).toNat : Int) = _
  have := or_lt ha hb
  rw [BitVec.ofInt_natCast, BitVec.ofInt_natCast, BitVec.toNat_or, BitVec.toNat_ofNat, BitVec.toNat_ofNat, Nat.mod_eq_of_lt (by omega), Nat.mod_eq_of_lt (by omega), IntWalk.i64_in _ (by omega)]
/-- What is in one set and not in another one. -/
def subtM (a b : Nat) : Nat := a &&& (18446744073709551615 - b)
theorem bits_not_u {a b : Nat} (ha : a < 256) (hb : b < 256) : bits BinOp.andNot IntKind.u64 (a : Int) (b : Int) = ((subtM a b : Nat) : Int) := by
  show IntKind.u64.wrap (((BitVec.ofInt 64 (a : Int)) &&& ~~~(BitVec.ofInt 64 (b : Int))).toNat : Int) = _
  have : subtM a b ≤ a := Nat.and_le_left
  have e : (((BitVec.ofInt 64 (a : Int)) &&& ~~~(BitVec.ofInt 64 (b : Int))).toNat) = subtM a b := by
    rw [BitVec.ofInt_natCast, BitVec.ofInt_natCast, BitVec.toNat_and, BitVec.toNat_not, BitVec.toNat_ofNat, BitVec.toNat_ofNat, Nat.mod_eq_of_lt (by omega), Nat.mod_eq_of_lt (by omega)]
    unfold subtM
    congr 1
  rw [e, IntWalk.u64_in _ (by omega)]
theorem bits_not_i {a b : Nat} (ha : a < 256) (hb : b < 256) : bits BinOp.andNot IntKind.i64 (a : Int) (b : Int) = ((subtM a b : Nat) : Int) := by
  show IntKind.i64.wrap (((BitVec.ofInt 64 (a : Int)) &&& ~~~(BitVec.ofInt 64 (b : Int))).toNat : Int) = _
  have : subtM a b ≤ a := Nat.and_le_left
  have e : (((BitVec.ofInt 64 (a : Int)) &&& ~~~(BitVec.ofInt 64 (b : Int))).toNat) = subtM a b := by
    rw [BitVec.ofInt_natCast, BitVec.ofInt_natCast, BitVec.toNat_and, BitVec.toNat_not, BitVec.toNat_ofNat, BitVec.toNat_ofNat, Nat.mod_eq_of_lt (by omega), Nat.mod_eq_of_lt (by omega)]
    unfold subtM
    congr 1
  rw [e, IntWalk.i64_in _ (by omega)]
theorem subt_wo {m n : Nat} (hm : m < 256) (hn : n < 8) : subtM m (2 ^ n) = woM m n := wo_not m hm n hn
set_option maxRecDepth 100000 in
theorem subt_sub8 : (List.range 256).all (fun a => (List.range 256).all fun b => (subtM a b == 0) == (a &&& b == a)) = true := by decide +kernel
theorem subt_sub {a b : Nat} (ha : a < 256) (hb : b < 256) : (subtM a b == 0) = (a &&& b == a) := by
  simpa using List.all_eq_true.1 (List.all_eq_true.1 subt_sub8 a (by simpa using ha)) b (by simpa using hb)
theorem natne {a : Nat} : ((a : Int) != 0) = (a != 0) := by
  rw [Bool.eq_iff_iff, bne_iff_ne, bne_iff_ne]; omega
theorem nateq {a : Nat} : ((a : Int) == 0) = (a == 0) := by
  rw [Bool.eq_iff_iff, beq_iff_eq, beq_iff_eq]; omega

end Go.Proofs.Ytmigkbimdjiigaa

/- Families: valid ones of both, masks of both, what hits: contracts. -/
set_option linter.unusedVariables false
set_option linter.unusedSimpArgs false
namespace Go.Proofs.Ytmigkbimdjiigaa
open Go.RowKit Tinker

/-- A slice's address leads to these masks. -/
def MskAt (w : World) (a : Option Addr) (ms : List Nat) : Prop :=
  ms = [] ∨ ∃ b off, a = some ⟨b, off, none⟩ ∧ b < w.heap.size ∧ ∀ (j n : Nat), ms[j]? = some n → w.cell? ⟨b, off + j, none⟩ = some (.int .u64 n)
theorem MskAt.below {w w' : World} {B : Nat} {a : Option Addr} {ms : List Nat} (h : MskAt w a ms) (hb : Below B w w') (hB : w.heap.size ≤ B) : MskAt w' a ms := by
  rcases h with h | ⟨b, off, e, hlt, hc⟩
  · exact .inl h
  · exact .inr ⟨b, off, e, Nat.lt_of_lt_of_le hlt hb.size, fun j n hj => (hb.cell (p := ⟨b, off + j, none⟩) (by show b < B; omega)).trans (hc j n hj)⟩
theorem MskAt.at_ {w : World} {a : Option Addr} {ms : List Nat} (h : MskAt w a ms) {k : Nat} (hk : k < ms.length) : ∃ (b off n : Nat), a = some ⟨b, off, none⟩ ∧ b < w.heap.size ∧ ms[k]? = some n ∧ w.cell? ⟨b, off + k, none⟩ = some (.int .u64 n) := by
  obtain ⟨b, off, e, hlb, hc⟩ := h.resolve_left (by rintro rfl; simp at hk)
  obtain ⟨n, hn⟩ := get_of_lt hk
  exact ⟨b, off, n, e, hlb, hn, hc k n hn⟩
/-- Masks as numbers. -/
def ni (ms : List Nat) : List Int := ms.map fun (m : Nat) => (m : Int)
theorem ni_len (ms : List Nat) : (ni ms).length = ms.length := by simp [ni]
theorem ni_get {ms : List Nat} {k : Nat} {n : Int} (h : (ni ms)[k]? = some n) : ∃ m : Nat, n = m ∧ ms[k]? = some m := by
  simp only [ni, List.getElem?_map, Option.map_eq_some_iff] at h
  obtain ⟨m, h1, h2⟩ := h
  exact ⟨m, h2.symm, h1⟩

/-- The error of a family. -/
def vfam (f : List (List Int)) : Int := if 70 < f.length then 3 else if f.all setB = true then 0 else 1
theorem vfam_large {f : List (List Int)} (h : 70 < f.length) : vfam f = 3 := by unfold vfam; rw [if_pos h]
theorem vfam_good {f : List (List Int)} (h : f.length ≤ 70) (h2 : f.all setB = true) : vfam f = 0 := by unfold vfam; rw [if_neg (by omega), if_pos h2]
theorem vfam_bad {f : List (List Int)} (h : f.length ≤ 70) (h2 : f.all setB = false) : vfam f = 1 := by unfold vfam; rw [if_neg (by omega), if_neg (by simp [h2])]
theorem vfam_ok {f : List (List Int)} (h : vfam f = 0) : f.length ≤ 70 ∧ ∀ s ∈ f, setB s = true := by
  unfold vfam at h
  split at h
  · contradiction
  · split at h
    · rename_i h1 h2
      exact ⟨by omega, fun s hs => List.all_eq_true.1 h2 s hs⟩
    · contradiction
/-- The masks of a family. -/
def fmM (f : List (List Int)) : List Nat := f.map maskM
theorem fmM_len (f : List (List Int)) : (fmM f).length = f.length := by simp [fmM]
theorem fmM_lt {f : List (List Int)} (h : ∀ s ∈ f, setB s = true) : ∀ m ∈ fmM f, m < 256 := fun m hm => by
  obtain ⟨s, hs, rfl⟩ := List.mem_map.1 hm
  exact maskM_lt (h s hs)
theorem setB_len {s : List Int} (h : setB s = true) : s.length ≤ 8 := by
  have e := nums_maskM h
  have : (numsM (maskM s)).length ≤ 8 := by
    unfold numsM
    rw [List.length_map]
    exact Nat.le_trans (List.length_filter_le _ _) (by simp)
  rw [e] at this
  exact this
theorem numsM_len (m : Nat) : (numsM m).length ≤ 8 := by
  unfold numsM
  rw [List.length_map]
  exact Nat.le_trans (List.length_filter_le _ _) (by simp)

/-- The mask of the first numbers. -/
theorem maskM_snoc {s : List Int} {k : Nat} {x : Int} (h : s[k]? = some x) : maskM (s.take (k + 1)) = maskM (s.take k) ||| 2 ^ x.toNat := by
  unfold maskM
  rw [List.take_add_one, h, List.foldl_append]
  rfl
theorem maskM_take_lt {s : List Int} (h : setB s = true) (k : Nat) : maskM (s.take k) < 256 := maskM_lt_go _ (fun x hx => setB_btw h (List.take_subset _ _ hx)) 0 (by omega)

end Go.Proofs.Ytmigkbimdjiigaa

/- Masks and numbers, what hits: contracts. -/
set_option linter.unusedVariables false
set_option linter.unusedSimpArgs false
namespace Go.Proofs.Ytmigkbimdjiigaa
open Go.RowKit Tinker

/-- The cells of masks. -/
def uv (ms : List Nat) : List Value := ms.map fun (m : Nat) => Value.int .u64 (m : Int)
theorem uv_len (ms : List Nat) : (uv ms).length = ms.length := by simp [uv]
theorem uv_get {ms : List Nat} {j n : Nat} (h : ms[j]? = some n) : (uv ms)[j]? = some (.int .u64 n) := by simp [uv, h]
theorem uv_snoc (ms : List Nat) (m : Nat) : uv (ms ++ [m]) = uv ms ++ [.int .u64 m] := by simp [uv]
theorem msk_of_own {w : World} {base : Nat} {e : TypeId} {a : Option Addr} {n c : Nat} {ms : List Nat} (h : w.ownsRow base e 1 (.slice a n c) n (uv ms)) : MskAt w a ms ∧ ms.length = n := by
  have hl : ms.length = n := by
    have := h.1
    rw [uv_len] at this
    omega
  refine ⟨?_, hl⟩
  rcases Nat.eq_zero_or_pos n with h0 | h0
  · exact .inl (List.eq_nil_of_length_eq_zero (by omega))
  · obtain ⟨g, e'⟩ := own_form h h0
    subst e'
    exact .inr ⟨g, 0, rfl, own_lt h, fun j m hj => by rw [Nat.zero_add]; exact own_cell h (uv_get hj)⟩
/-- New masks. -/
def GivesMsk (ms : List Nat) (w : World) (e : Ending) (w' : World) : Prop :=
  ∃ a c, e = .returned (.slice a ms.length c) ∧ MskAt w' a ms ∧ Below w.heap.size w w'
/-- The numbers below k. -/
def nuTo (m k : Nat) : List Int := ((List.range k).filter (fun n => m.testBit n)).map (fun n : Nat => (n : Int))
theorem nuTo_yes {m k : Nat} (h : m.testBit k = true) : nuTo m (k + 1) = nuTo m k ++ [(k : Int)] := by unfold nuTo; rw [List.range_succ, List.filter_append]; simp [h]
theorem nuTo_no {m k : Nat} (h : m.testBit k = false) : nuTo m (k + 1) = nuTo m k := by unfold nuTo; rw [List.range_succ, List.filter_append]; simp [h]
theorem nuTo_len (m k : Nat) : (nuTo m k).length ≤ k := by
  unfold nuTo
  rw [List.length_map]
  exact Nat.le_trans (List.length_filter_le _ _) (by simp)
theorem nuTo_8 (m : Nat) : nuTo m 8 = numsM m := rfl

end Go.Proofs.Ytmigkbimdjiigaa

/- What hits a family; families of masks: contracts. -/
set_option linter.unusedVariables false
set_option linter.unusedSimpArgs false
namespace Go.Proofs.Ytmigkbimdjiigaa
open Go.RowKit Tinker

/-- Own lists of numbers in memory, from a base on. -/
def RowsB (base : Nat) (w : World) (g : Option Addr) (fs : List (List Int)) : Prop :=
  fs = [] ∨ ∃ b off, g = some ⟨b, off, none⟩ ∧ b < w.heap.size ∧ ∀ j zs, fs[j]? = some zs → ∃ a c, w.cell? ⟨b, off + j, none⟩ = some (.slice a zs.length c) ∧ OwnL w base none a zs
theorem RowsB.at_ {base : Nat} {w : World} {g : Option Addr} {fs : List (List Int)} (h : RowsB base w g fs) : RowsAt w g fs := by
  rcases h with h | ⟨b, off, e, hlt, hc⟩
  · exact .inl h
  · exact .inr ⟨b, off, e, hlt, fun j zs hj => by
      obtain ⟨a, c, h0, h1⟩ := hc j zs hj
      exact ⟨a, c, h0, h1.at_⟩⟩
theorem RowsB.wide {base base' : Nat} {w : World} {g : Option Addr} {fs : List (List Int)} (h : RowsB base w g fs) (hb : base' ≤ base) : RowsB base' w g fs := by
  rcases h with h | ⟨b, off, e, hlt, hc⟩
  · exact .inl h
  · exact .inr ⟨b, off, e, hlt, fun j zs hj => by
      obtain ⟨a, c, h0, h1⟩ := hc j zs hj
      exact ⟨a, c, h0, h1.wide hb⟩⟩
theorem RowsB.below {base : Nat} {w w' : World} {g : Option Addr} {fs : List (List Int)} (h : RowsB base w g fs) (hb : Below w.heap.size w w') : RowsB base w' g fs := by
  rcases h with h | ⟨b, off, e, hlt, hc⟩
  · exact .inl h
  · exact .inr ⟨b, off, e, Nat.lt_of_lt_of_le hlt hb.size, fun j zs hj => by
      obtain ⟨a, c, h0, h1⟩ := hc j zs hj
      exact ⟨a, c, (hb.cell (p := ⟨b, _, none⟩) (by show b < _; omega)).trans h0, h1.low hb⟩⟩
theorem TabI.atB {M : Nat} {rs : List (List Int)} {n : Nat} {xs : List Value} {w W : World} (h : TabI M rs n xs w W) : RowsB w.heap.size W (some ⟨M, 0, none⟩) rs :=
  .inr ⟨M, 0, rfl, hp_lt h.bm, fun j zs hj => by
    obtain ⟨a, c, h1, h2⟩ := h.st j zs hj
    exact ⟨a, c, by rw [Nat.zero_add]; exact hp_cell h.bm (by simpa using h1), h2.free (fun b _ _ => by simp)⟩⟩
theorem ownL_off {W : World} {base M : Nat} {a : Option Addr} {zs : List Int} (h : OwnL W base none a zs) (hM : M < base) : OwnL W base (some M) a zs := by
  rcases h with h | ⟨b, h1, h2, h3, h4⟩
  · exact .inl h
  · exact .inr ⟨b, h1, h2, by intro e; injection e with e; omega, h4⟩
/-- New lists, and a code. -/
def GivesRowsB (fs : List (List Int)) (w : World) (e : Ending) (w' : World) : Prop :=
  ∃ a cap, e = .returned (.slice a fs.length cap) ∧ RowsB w.heap.size w' a fs ∧ Below w.heap.size w w'
def GivesRowsBE (fs : List (List Int)) (c : Int) (w : World) (e : Ending) (w' : World) : Prop :=
  ∃ a cap, e = .returned (.tuple #[.slice a fs.length cap, .int .i64 c]) ∧ RowsB w.heap.size w' a fs ∧ Below w.heap.size w w'
theorem givesRowsBE_nil {c : Int} {w w' : World} (hB : Below w.heap.size w w') : GivesRowsBE [] c w (.returned (.tuple #[.slice none 0 0, .int .i64 c])) w' := ⟨none, 0, rfl, .inl rfl, hB⟩

end Go.Proofs.Ytmigkbimdjiigaa
