/- Several texts in one. -/
import Derived.Test.YtmigkbimdjiigaaEnP
/- Plain mathematics: sets as masks below 1024; suites as lists of masks. -/
set_option linter.unusedVariables false
set_option linter.unusedSimpArgs false
namespace Tinker

/-- The numbers of a mask. -/
def numsK (m : Nat) : List Int := ((List.range 10).filter (fun n => m.testBit n)).map (fun n : Nat => (n : Int))
/-- How many numbers a mask has. -/
def szK (m : Nat) : Nat := (numsK m).length
/-- What is in one set and not in another one. -/
def difK (a b : Nat) : Nat := a ^^^ (a &&& b)
theorem difK_bit (a b i : Nat) : (difK a b).testBit i = (a.testBit i && !b.testBit i) := by
  unfold difK
  rw [Nat.testBit_xor, Nat.testBit_and]
  cases a.testBit i <;> cases b.testBit i <;> rfl
theorem or_ltK {a b : Nat} (ha : a < 1024) (hb : b < 1024) : a ||| b < 1024 := Nat.or_lt_two_pow (n := 10) ha hb
theorem and_ltK {a b : Nat} (ha : a < 1024) : a &&& b < 1024 := Nat.lt_of_le_of_lt Nat.and_le_left ha
theorem difK_lt {a b : Nat} (ha : a < 1024) : difK a b < 1024 := Nat.xor_lt_two_pow (n := 10) ha (and_ltK ha)
theorem powK {n : Nat} (h : n < 10) : 2 ^ n < 1024 ∧ 1 ≤ 2 ^ n :=
  ⟨Nat.lt_of_lt_of_le (Nat.pow_lt_pow_right (a := 2) (by omega) h) (by decide), Nat.one_le_two_pow⟩
theorem bit_ltK {m i : Nat} (hm : m < 1024) (h : m.testBit i = true) : i < 10 := by
  rcases Nat.lt_or_ge i 10 with h1 | h1
  · exact h1
  · rw [Nat.testBit_lt_two_pow (Nat.lt_of_lt_of_le hm (Nat.pow_le_pow_right (n := 2) (by omega) h1))] at h
    cases h
theorem eq_bitsK {a b : Nat} (ha : a < 1024) (hb : b < 1024) (h : ∀ i, i < 10 → a.testBit i = b.testBit i) : a = b := by
  refine Nat.eq_of_testBit_eq fun i => ?_
  rcases Nat.lt_or_ge i 10 with h1 | h1
  · exact h i h1
  · have e : (1024 : Nat) ≤ 2 ^ i := Nat.pow_le_pow_right (n := 2) (by omega) h1
    rw [Nat.testBit_lt_two_pow (Nat.lt_of_lt_of_le ha e), Nat.testBit_lt_two_pow (Nat.lt_of_lt_of_le hb e)]
theorem difK_zero {a b : Nat} : difK a b = 0 ↔ ∀ i, a.testBit i = true → b.testBit i = true := by
  constructor
  · intro h i hi
    have := difK_bit a b i
    rw [h, Nat.zero_testBit, hi] at this
    cases hb : b.testBit i
    · rw [hb] at this; cases this
    · rfl
  · intro h
    refine Nat.eq_of_testBit_eq fun i => ?_
    rw [difK_bit, Nat.zero_testBit]
    cases ha : a.testBit i
    · rfl
    · rw [h i ha]; rfl
theorem numsK_mem {m : Nat} {x : Int} : x ∈ numsK m ↔ ∃ n : Nat, x = (n : Int) ∧ n < 10 ∧ m.testBit n = true := by
  unfold numsK
  simp only [List.mem_map, List.mem_filter, List.mem_range]
  constructor
  · rintro ⟨n, ⟨h1, h2⟩, rfl⟩; exact ⟨n, rfl, h1, h2⟩
  · rintro ⟨n, rfl, h1, h2⟩; exact ⟨n, ⟨h1, h2⟩, rfl⟩
theorem numsK_memN {m n : Nat} : (n : Int) ∈ numsK m ↔ n < 10 ∧ m.testBit n = true := by
  rw [numsK_mem]
  constructor
  · rintro ⟨k, e, h1, h2⟩
    obtain rfl : n = k := by omega
    exact ⟨h1, h2⟩
  · exact fun h => ⟨n, rfl, h.1, h.2⟩
theorem range_pair : ∀ n, (List.range n).Pairwise (· < ·)
  | 0 => List.Pairwise.nil
  | n + 1 => by
    rw [List.range_succ, List.pairwise_append]
    refine ⟨range_pair n, by simp, fun a ha b hb => ?_⟩
    rw [List.mem_range] at ha
    rw [List.mem_singleton] at hb
    omega
theorem filt_pair (p : Nat → Bool) (n : Nat) : (((List.range n).filter p).map (fun n : Nat => (n : Int))).Pairwise (· < ·) := by
  rw [List.pairwise_map]
  exact ((range_pair n).filter p).imp fun h => by omega
theorem numsK_pair (m : Nat) : (numsK m).Pairwise (· < ·) := filt_pair _ _
theorem setOf_pair : ∀ {l : List Int}, l.Pairwise (· < ·) → isSetB l = true
  | [], _ => rfl
  | [x], _ => rfl
  | x :: y :: r, h => by
    rw [List.pairwise_cons] at h
    rw [isSetB, Bool.and_eq_true]
    exact ⟨decide_eq_true (h.1 y (by simp)), setOf_pair h.2⟩
theorem setK (m : Nat) : isSetB (numsK m) = true := setOf_pair (numsK_pair m)
theorem szK_le (m : Nat) : szK m ≤ 10 := by
  unfold szK numsK
  rw [List.length_map]
  exact Nat.le_trans (List.length_filter_le _ _) (by simp)
theorem pair_unique {xs ys : List Int} (hx : xs.Pairwise (· < ·)) (hy : ys.Pairwise (· < ·)) (h : ∀ a, a ∈ xs ↔ a ∈ ys) : xs = ys :=
  srt_unique (r := fun a b : Int => a < b) (fun a b h1 h2 => by omega) hx hy h
theorem numsK_inj {m n : Nat} (hm : m < 1024) (hn : n < 1024) (h : numsK m = numsK n) : m = n := by
  refine eq_bitsK hm hn fun i hi => ?_
  rw [Bool.eq_iff_iff]
  constructor
  · intro h1
    have : (i : Int) ∈ numsK n := by rw [← h]; exact numsK_memN.2 ⟨hi, h1⟩
    exact (numsK_memN.1 this).2
  · intro h1
    have : (i : Int) ∈ numsK m := by rw [h]; exact numsK_memN.2 ⟨hi, h1⟩
    exact (numsK_memN.1 this).2
theorem maskM_ltK {s : List Int} (h : ∀ x ∈ s, 0 ≤ x ∧ x < 10) : maskM s < 1024 := by
  have key : ∀ (s : List Int), (∀ x ∈ s, 0 ≤ x ∧ x < 10) → ∀ a : Nat, a < 1024 → s.foldl (fun m n => m ||| 2 ^ n.toNat) a < 1024 := by
    intro s
    induction s with
    | nil => intro _ a h; simpa
    | cons x r ih =>
      intro h a ha
      rw [List.foldl_cons]
      refine ih (fun y hy => h y (List.mem_cons_of_mem _ hy)) _ (or_ltK ha ?_)
      obtain ⟨h1, h2⟩ := h x (by simp)
      exact (powK (by omega)).1
  exact key s h 0 (by omega)
theorem maskM_take {s : List Int} {k : Nat} {x : Int} (h : s[k]? = some x) : maskM (s.take (k + 1)) = maskM (s.take k) ||| 2 ^ x.toNat := by
  rw [List.take_add_one, h]
  unfold maskM
  rw [List.foldl_append]
  rfl
theorem maskM_has {s : List Int} (h : ∀ x ∈ s, 0 ≤ x) (n : Nat) : (maskM s).testBit n = true ↔ (n : Int) ∈ s := by
  rw [maskM_bit, List.any_eq_true]
  constructor
  · rintro ⟨y, hy, e⟩
    have e' : y.toNat = n := by simpa using e
    have := h y hy
    rw [show (n : Int) = y by omega]
    exact hy
  · exact fun hn => ⟨_, hn, by simp⟩
theorem nums_maskK {s : List Int} (hs : isSetB s = true) (h : ∀ x ∈ s, 0 ≤ x ∧ x < 10) : numsK (maskM s) = s := by
  refine pair_unique (numsK_pair _) (isSetB_pair hs) fun x => ?_
  rw [numsK_mem]
  constructor
  · rintro ⟨n, rfl, h1, h2⟩
    exact (maskM_has (fun x hx => (h x hx).1) n).1 h2
  · intro hx
    obtain ⟨h1, h2⟩ := h x hx
    refine ⟨x.toNat, by omega, by omega, (maskM_has (fun x hx => (h x hx).1) _).2 ?_⟩
    rw [show ((x.toNat : Nat) : Int) = x by omega]
    exact hx
theorem mask_numsK {m : Nat} (hm : m < 1024) : maskM (numsK m) = m := by
  have h0 : ∀ x ∈ numsK m, 0 ≤ x ∧ x < 10 := fun x hx => by
    obtain ⟨n, rfl, h1, _⟩ := numsK_mem.1 hx
    omega
  refine eq_bitsK (maskM_ltK h0) hm fun i hi => ?_
  rw [Bool.eq_iff_iff, maskM_has fun x hx => (h0 x hx).1, numsK_memN]
  exact ⟨fun h => h.2, fun h => ⟨hi, h⟩⟩
set_option maxRecDepth 100000 in
theorem szK_with : ∀ m, m < 1024 → ∀ n, n < 10 → m.testBit n = false → szK (m ||| 2 ^ n) = szK m + 1 := by decide +kernel
set_option maxRecDepth 100000 in
theorem hasK : ∀ m, m < 1024 → ∀ n, n < 10 → (m &&& 2 ^ n != 0) = m.testBit n := by decide +kernel
theorem szK_zero : szK 0 = 0 := by decide
theorem szK_mono {a b : Nat} (h : ∀ i, a.testBit i = true → b.testBit i = true) : szK a ≤ szK b := by
  unfold szK numsK
  rw [List.length_map, List.length_map]
  have : ∀ l : List Nat, (l.filter fun n => a.testBit n).length ≤ (l.filter fun n => b.testBit n).length := by
    intro l
    induction l with
    | nil => simp
    | cons x r ih =>
      rw [List.filter_cons, List.filter_cons]
      cases ha : a.testBit x
      · rw [if_neg (by decide)]
        split
        · simp; omega
        · exact ih
      · rw [h x ha, if_pos rfl, if_pos rfl]
        simp; omega
  exact this _
theorem szK_or {a b : Nat} (h : ∀ i, a.testBit i = true → b.testBit i = false) : szK (a ||| b) = szK a + szK b := by
  unfold szK numsK
  rw [List.length_map, List.length_map, List.length_map]
  have : ∀ l : List Nat, (l.filter fun n => (a ||| b).testBit n).length = (l.filter fun n => a.testBit n).length + (l.filter fun n => b.testBit n).length := by
    intro l
    induction l with
    | nil => simp
    | cons x r ih =>
      rw [List.filter_cons, List.filter_cons, List.filter_cons, Nat.testBit_or]
      cases ha : a.testBit x
      · cases hb : b.testBit x
        · simpa using ih
        · simp only [Nat.testBit_or] at ih
          simp; omega
      · simp only [Nat.testBit_or] at ih
        rw [h x ha]
        simp; omega
  exact this _

/-- The mask of the numbers below n for which something holds. -/
def mskTo (p : Nat → Bool) : Nat → Nat
  | 0 => 0
  | n + 1 => if p n then mskTo p n ||| 2 ^ n else mskTo p n
theorem mskTo_bit (p : Nat → Bool) (i : Nat) : ∀ n, (mskTo p n).testBit i = (decide (i < n) && p i)
  | 0 => by simp [mskTo]
  | n + 1 => by
    have ih := mskTo_bit p i n
    rw [mskTo]
    by_cases hp : p n = true
    · rw [if_pos hp, Nat.testBit_or, ih, Nat.testBit_two_pow]
      by_cases e : n = i
      · subst e; simp [hp]
      · rw [decide_eq_false e, Bool.or_false]
        congr 1
        simp only [decide_eq_decide]
        omega
    · rw [if_neg hp, ih]
      by_cases e : i = n
      · subst e
        have : p i = false := by simpa using hp
        simp [this]
      · congr 1
        simp only [decide_eq_decide]
        omega
theorem mskTo_lt (p : Nat → Bool) : ∀ n, n ≤ 10 → mskTo p n < 1024
  | 0, _ => by simp [mskTo]
  | n + 1, h => by
    rw [mskTo]
    split
    · exact or_ltK (mskTo_lt p n (by omega)) (powK (by omega)).1
    · exact mskTo_lt p n (by omega)
/-- The goals of a row. -/
def rowM (z : List Int) : Nat := mskTo (fun g => z.getD g 0 == 1) z.length
theorem rowM_bit (z : List Int) (g : Nat) : (rowM z).testBit g = (z.getD g 0 == 1) := by
  unfold rowM
  rw [mskTo_bit]
  by_cases h : g < z.length
  · simp [h]
  · rw [decide_eq_false h, List.getD_eq_getElem?_getD, List.getElem?_eq_none (by omega)]
    rfl
theorem rowM_lt {z : List Int} (h : z.length ≤ 10) : rowM z < 1024 := mskTo_lt _ _ h
/-- How many goals there are. -/
def goalsN (t : List (List Int)) : Nat := (t.headD []).length
/-- The error of a suite. -/
def rowB (n : Nat) (z : List Int) : Bool := z.length == n && allBtw z 0 1
def vsu (t : List (List Int)) : Int := if 8 < t.length ∨ 10 < goalsN t then 3 else if t.all (rowB (goalsN t)) then 0 else 1
theorem vsu_large {t : List (List Int)} (h : 8 < t.length ∨ 10 < goalsN t) : vsu t = 3 := by unfold vsu; rw [if_pos h]
theorem vsu_good {t : List (List Int)} (h : ¬ (8 < t.length ∨ 10 < goalsN t)) (h2 : t.all (rowB (goalsN t)) = true) : vsu t = 0 := by unfold vsu; rw [if_neg h, if_pos h2]
theorem vsu_bad {t : List (List Int)} (h : ¬ (8 < t.length ∨ 10 < goalsN t)) (h2 : t.all (rowB (goalsN t)) = false) : vsu t = 1 := by unfold vsu; rw [if_neg h, if_neg (by simp [h2])]
theorem vsu_ok {t : List (List Int)} (h : vsu t = 0) : t.length ≤ 8 ∧ goalsN t ≤ 10 ∧ ∀ z ∈ t, z.length = goalsN t ∧ allBtw z 0 1 = true := by
  unfold vsu at h
  split at h
  · contradiction
  · split at h
    · rename_i h1 h2
      refine ⟨by omega, by omega, fun z hz => ?_⟩
      have := List.all_eq_true.1 h2 z hz
      unfold rowB at this
      rw [Bool.and_eq_true, beq_iff_eq] at this
      exact this
    · contradiction
theorem vsu_cases (t : List (List Int)) : vsu t = 0 ∨ vsu t = 1 ∨ vsu t = 3 := by
  unfold vsu
  split
  · exact .inr (.inr rfl)
  · split
    · exact .inl rfl
    · exact .inr (.inl rfl)
theorem goals_nil : goalsN [] = 0 := rfl
theorem goals_at {t : List (List Int)} {z : List Int} (h : t[0]? = some z) : goalsN t = z.length := by
  unfold goalsN
  cases t with
  | nil => simp at h
  | cons x r => simp at h; subst h; rfl
/-- A suite's rows as masks. -/
def tblM (t : List (List Int)) : List Nat := t.map rowM
theorem tblM_len (t : List (List Int)) : (tblM t).length = t.length := by simp [tblM]
theorem tblM_get {t : List (List Int)} {k : Nat} {z : List Int} (h : t[k]? = some z) : (tblM t)[k]? = some (rowM z) := by simp [tblM, h]
theorem tblM_lt {t : List (List Int)} (h : vsu t = 0) : ∀ x ∈ tblM t, x < 1024 := fun x hx => by
  obtain ⟨z, hz, rfl⟩ := List.mem_map.1 hx
  obtain ⟨_, h2, h3⟩ := vsu_ok h
  exact rowM_lt (by rw [(h3 z hz).1]; exact h2)
theorem tblM_bit (t : List (List Int)) (r g : Nat) : ((tblM t).getD r 0).testBit g = ((t.getD r []).getD g 0 == 1) := by
  unfold tblM
  rw [List.getD_eq_getElem?_getD, List.getElem?_map, List.getD_eq_getElem?_getD (l := t)]
  cases t[r]? with
  | none => rw [show (Option.map rowM none).getD 0 = 0 from rfl, Nat.zero_testBit]; rfl
  | some z => exact rowM_bit z g

/-- The goals that the first k rows meet, of those that are in a set. -/
def metTo (s : List Nat) (S : Nat) : Nat → Nat
  | 0 => 0
  | k + 1 => if S.testBit k then metTo s S k ||| s.getD k 0 else metTo s S k
def metM (s : List Nat) (S : Nat) : Nat := metTo s S s.length
theorem metTo_bit (s : List Nat) (S g : Nat) : ∀ k, (metTo s S k).testBit g = (List.range k).any fun i => S.testBit i && (s.getD i 0).testBit g
  | 0 => by simp [metTo]
  | k + 1 => by
    have ih := metTo_bit s S g k
    rw [metTo, List.range_succ, List.any_append]
    cases hS : S.testBit k
    · rw [if_neg (by decide), ih]
      simp [hS]
    · rw [if_pos rfl, Nat.testBit_or, ih]
      simp [hS]
theorem getD_lt {s : List Nat} (h : ∀ x ∈ s, x < 1024) (k : Nat) : s.getD k 0 < 1024 := by
  rw [List.getD_eq_getElem?_getD]
  cases hk : s[k]? with
  | none => exact (by decide : (0 : Nat) < 1024)
  | some x => exact h x (List.mem_of_getElem? hk)
theorem metTo_lt {s : List Nat} (h : ∀ x ∈ s, x < 1024) (S : Nat) : ∀ k, metTo s S k < 1024
  | 0 => by simp [metTo]
  | k + 1 => by
    rw [metTo]
    split
    · exact or_ltK (metTo_lt h S k) (getD_lt h k)
    · exact metTo_lt h S k
theorem metM_lt {s : List Nat} (h : ∀ x ∈ s, x < 1024) (S : Nat) : metM s S < 1024 := metTo_lt h S _
theorem metM_bit {s : List Nat} {S g : Nat} : (metM s S).testBit g = true ↔ ∃ r, r < s.length ∧ S.testBit r = true ∧ (s.getD r 0).testBit g = true := by
  unfold metM
  rw [metTo_bit, List.any_eq_true]
  constructor
  · rintro ⟨r, hr, h⟩
    rw [Bool.and_eq_true] at h
    exact ⟨r, List.mem_range.1 hr, h.1, h.2⟩
  · rintro ⟨r, hr, h1, h2⟩
    exact ⟨r, List.mem_range.2 hr, by rw [h1, h2]; rfl⟩
/-- All rows; the open goals; those that are left; covers. -/
def fullM (s : List Nat) : Nat := 2 ^ s.length - 1
def openM (s : List Nat) : Nat := metM s (fullM s)
def leftM (s : List Nat) (S : Nat) : Nat := difK (openM s) (metM s S)
def covB (s : List Nat) (S : Nat) : Bool := leftM s S == 0
theorem full_bit (s : List Nat) (i : Nat) : (fullM s).testBit i = decide (i < s.length) := Nat.testBit_two_pow_sub_one _ _
theorem full_lt {s : List Nat} (h : s.length ≤ 8) : fullM s < 256 := by
  unfold fullM
  have h2 : 2 ^ s.length ≤ 2 ^ 8 := Nat.pow_le_pow_right (by omega) h
  have : 1 ≤ 2 ^ s.length := Nat.one_le_two_pow
  omega
theorem openM_bit {s : List Nat} {g : Nat} : (openM s).testBit g = true ↔ ∃ r, r < s.length ∧ (s.getD r 0).testBit g = true := by
  unfold openM
  rw [metM_bit]
  constructor
  · rintro ⟨r, h1, _, h2⟩; exact ⟨r, h1, h2⟩
  · rintro ⟨r, h1, h2⟩; exact ⟨r, h1, by rw [full_bit]; exact decide_eq_true h1, h2⟩
theorem met_open {s : List Nat} {S g : Nat} (h : (metM s S).testBit g = true) : (openM s).testBit g = true := by
  obtain ⟨r, h1, _, h2⟩ := metM_bit.1 h
  exact openM_bit.2 ⟨r, h1, h2⟩
theorem covB_iff {s : List Nat} {S : Nat} : covB s S = true ↔ ∀ g, (openM s).testBit g = true → (metM s S).testBit g = true := by
  unfold covB leftM
  rw [beq_iff_eq, difK_zero]
theorem cov_full (s : List Nat) : covB s (fullM s) = true := covB_iff.2 fun g h => h
theorem openM_lt {s : List Nat} (h : ∀ x ∈ s, x < 1024) : openM s < 1024 := metM_lt h _
theorem leftM_lt {s : List Nat} (h : ∀ x ∈ s, x < 1024) (S : Nat) : leftM s S < 1024 := difK_lt (openM_lt h)
end Tinker

/- Plain mathematics: orders of rows, their wait. -/
set_option linter.unusedVariables false
set_option linter.unusedSimpArgs false
namespace Tinker
/-- Whether a list has each number below n once. -/
def ordB (o : List Int) (n : Nat) : Bool := o.length == n && (List.range n).all fun r => o.contains (r : Int)
theorem nodup_lenI : ∀ {l k : List Int}, l.Nodup → (∀ x ∈ l, x ∈ k) → l.length ≤ k.length
  | [], _, _, _ => by simp
  | x :: r, k, hn, h => by
    rw [List.nodup_cons] at hn
    have hx := h x (by simp)
    have := nodup_lenI (l := r) (k := k.erase x) hn.2 (fun y hy => (List.mem_erase_of_ne (fun e => hn.1 (by rw [← e]; exact hy))).2 (h y (by simp [hy])))
    rw [List.length_erase_of_mem hx] at this
    have := List.length_pos_of_mem hx
    simp only [List.length_cons]
    omega
theorem rangeI_nodup (n : Nat) : ((List.range n).map fun r : Nat => (r : Int)).Nodup := by
  rw [List.Nodup, List.pairwise_map]
  exact (range_pair n).imp fun h => by omega
theorem nodup_has {o : List Int} {n : Nat} (hl : o.length = n) (h : ∀ r, r < n → (r : Int) ∈ o) : o.Nodup := by
  rw [List.nodup_iff_count]
  intro x
  rcases Nat.lt_or_ge (List.count x o) 2 with h1 | h1
  · omega
  · exfalso
    have hx : x ∈ o := List.count_pos_iff.1 (by omega)
    have hsub : ∀ y ∈ (List.range n).map (fun r : Nat => (r : Int)), y ∈ o.erase x := fun y hy => by
      obtain ⟨r, hr, rfl⟩ := List.mem_map.1 hy
      by_cases e : ((r : Nat) : Int) = x
      · rw [e]
        refine List.count_pos_iff.1 ?_
        rw [List.count_erase_self]
        omega
      · exact (List.mem_erase_of_ne e).2 (h r (List.mem_range.1 hr))
    have := nodup_lenI (rangeI_nodup n) hsub
    rw [List.length_erase_of_mem hx] at this
    have hp := List.length_pos_of_mem hx
    simp at this
    omega
theorem has_nodup {o : List Int} {n : Nat} (hl : o.length = n) (hn : o.Nodup) (hb : ∀ x ∈ o, 0 ≤ x ∧ x < (n : Int)) : ∀ r, r < n → (r : Int) ∈ o := by
  intro r hr
  rcases Classical.em ((r : Int) ∈ o) with h | h
  · exact h
  · exfalso
    have := nodup_lenI (l := (r : Int) :: o) (k := (List.range n).map fun r : Nat => (r : Int)) (List.nodup_cons.2 ⟨h, hn⟩) (fun y hy => by
      rcases List.mem_cons.1 hy with e | e
      · rw [e]; exact List.mem_map.2 ⟨r, List.mem_range.2 hr, rfl⟩
      · have := hb y e
        exact List.mem_map.2 ⟨y.toNat, List.mem_range.2 (by omega), by omega⟩)
    simp at this
    omega
theorem ordB_iff {o : List Int} {n : Nat} : ordB o n = true ↔ o.length = n ∧ ∀ r, r < n → (r : Int) ∈ o := by
  unfold ordB
  rw [Bool.and_eq_true, beq_iff_eq, List.all_eq_true]
  constructor
  · rintro ⟨h1, h2⟩
    exact ⟨h1, fun r hr => by simpa using h2 r (List.mem_range.2 hr)⟩
  · rintro ⟨h1, h2⟩
    exact ⟨h1, fun r hr => by simpa using h2 r (List.mem_range.1 hr)⟩
theorem ord_btw {o : List Int} {n : Nat} (h : ordB o n = true) : o.Nodup ∧ ∀ x ∈ o, 0 ≤ x ∧ x < (n : Int) := by
  obtain ⟨h1, h2⟩ := ordB_iff.1 h
  refine ⟨nodup_has h1 h2, fun x hx => ?_⟩
  rcases Classical.em (0 ≤ x ∧ x < (n : Int)) with h3 | h3
  · exact h3
  · exfalso
    have := nodup_lenI (rangeI_nodup n) (k := o.erase x) (fun y hy => by
      obtain ⟨r, hr, rfl⟩ := List.mem_map.1 hy
      have := List.mem_range.1 hr
      exact (List.mem_erase_of_ne (fun e => h3 (by omega))).2 (h2 r this))
    rw [List.length_erase_of_mem hx] at this
    have hp := List.length_pos_of_mem hx
    simp at this
    omega
theorem set_nodup : ∀ {l : List Int}, isSetB l = true → l.Nodup := fun h => (isSetB_pair h).imp fun h => by omega
/-- The library's sort tells it. -/
theorem ord_sorted {o : List Int} {n : Nat} (hl : o.length = n) (hb : ∀ x ∈ o, 0 ≤ x ∧ x < (n : Int)) : isSetB (o.mergeSort fun x y => decide (x ≤ y)) = ordB o n := by
  have hp := List.mergeSort_perm o fun x y => decide (x ≤ y)
  have hs := List.pairwise_mergeSort (le := fun x y : Int => decide (x ≤ y)) (fun a b c h1 h2 => by simp at *; omega) (fun a b => by simp; omega) o
  rw [Bool.eq_iff_iff, ordB_iff]
  constructor
  · intro h
    exact ⟨hl, has_nodup hl (hp.nodup_iff.1 (set_nodup h)) hb⟩
  · rintro ⟨_, h2⟩
    have hn := hp.nodup_iff.2 (nodup_has hl h2)
    refine setOf_pair ?_
    refine List.Pairwise.imp₂ (fun a b h1 h2 => ?_) hs hn
    have h3 := of_decide_eq_true h1
    omega

/-- The wait of the first k rows of an order. -/
def wtS (s : List Nat) (o : List Int) : Nat → Nat
  | 0 => 0
  | k + 1 => wtS s o k + szK (leftM s (maskM (o.take k)))
theorem wtS_le (s : List Nat) (o : List Int) : ∀ k, wtS s o k ≤ 10 * k
  | 0 => by simp [wtS]
  | k + 1 => by
    rw [wtS]
    have := wtS_le s o k
    have := szK_le (leftM s (maskM (o.take k)))
    omega
/-- The error of a suite and an order. -/
def vso (t : List (List Int)) (o : List Int) : Int := if vsu t = 0 then (if ordB o t.length then 0 else 1) else vsu t
theorem vso_ok {t : List (List Int)} {o : List Int} (h : vso t o = 0) : vsu t = 0 ∧ ordB o t.length = true := by
  unfold vso at h
  split at h
  · rename_i h1
    split at h
    · rename_i h2; exact ⟨h1, h2⟩
    · contradiction
  · rename_i h1; exact absurd h h1
end Tinker
