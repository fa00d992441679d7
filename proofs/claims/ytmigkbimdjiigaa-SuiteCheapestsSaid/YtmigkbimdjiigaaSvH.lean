/- Several texts in one. -/
import Derived.Test.YtmigkbimdjiigaaSuT
import Derived.Test.YtmigkbimdjiigaaSvD
/- The order of sets, and sets by their bits, in the document's words: before, subset: contracts. -/
set_option linter.unusedVariables false
set_option linter.unusedSimpArgs false
namespace Tinker
theorem nums_flt {S n : Nat} (hn : n ≤ 10) (h : S < 2 ^ n) : fltL (fun i => S.testBit i) n = numsK S := by
  refine pair_unique (filt_pair _ _) (numsK_pair _) fun x => ?_
  rw [numsK_mem]
  constructor
  · intro hx
    obtain ⟨i, rfl, h1, h2⟩ := fltL_mem.1 hx
    exact ⟨i, rfl, by omega, h2⟩
  · rintro ⟨i, rfl, h1, h2⟩
    refine fltL_mem.2 ⟨i, rfl, ?_, h2⟩
    rcases Nat.lt_or_ge i n with h3 | h3
    · exact h3
    · rw [Nat.testBit_lt_two_pow (Nat.lt_of_lt_of_le h (Nat.pow_le_pow_right (by omega) h3))] at h2
      cases h2
set_option maxRecDepth 100000 in
theorem shr_bitK : ∀ m, m < 1024 → ∀ n, n < 10 → ((m / 2 ^ n) &&& 1 == 1) = m.testBit n := by decide +kernel
theorem two_lt {S n : Nat} (hn : n ≤ 10) (h : S < 2 ^ n) : S < 1024 := by
  have : 2 ^ n ≤ 2 ^ 10 := Nat.pow_le_pow_right (by omega) hn
  omega
end Tinker
namespace Go.Proofs.Ytmigkbimdjiigaa
open Go.RowKit Tinker

theorem powi8 (n : Nat) : ((2 : Int) ^ n) = ((2 ^ n : Nat) : Int) := by simp
theorem bit_and8 {s k : Nat} (hs : s < 1024) : bits BinOp.and IntKind.i64 ((s : Int) / 2 ^ k) 1 = (s : Int) / 2 ^ k % 2 := by
  have h5 : ((s : Int) / 2 ^ k) = ((s / 2 ^ k : Nat) : Int) := by rw [powi8]; exact (Int.natCast_ediv s (2 ^ k)).symm
  rw [h5, show (1 : Int) = ((1 : Nat) : Int) from rfl, bits_andKi (b := 1) (Nat.lt_of_le_of_lt (Nat.div_le_self _ _) hs) (by omega), Nat.and_one_is_mod]; rfl
theorem bit_one8 {s k : Nat} (hs : s < 1024) (hk : k < 10) : ((s : Int) / 2 ^ k % 2 == 1) = s.testBit k := by
  have h5 : ((s : Int) / 2 ^ k) = ((s / 2 ^ k : Nat) : Int) := by rw [powi8]; exact (Int.natCast_ediv s (2 ^ k)).symm
  rw [← shr_bitK s hs k hk, Nat.and_one_is_mod, h5, Bool.eq_iff_iff, beq_iff_eq, beq_iff_eq]; omega
theorem drop_at8 {l : List Int} {k : Nat} {x : Int} (h : l[k]? = some x) : l.drop k = x :: l.drop (k + 1) := by
  obtain ⟨hk, rfl⟩ := List.getElem?_eq_some_iff.1 h
  exact List.drop_eq_getElem_cons hk
theorem befB_same8 {a b : List Int} {k : Nat} {x : Int} (h1 : a[k]? = some x) (h2 : b[k]? = some x) : befB (a.drop k) (b.drop k) = befB (a.drop (k + 1)) (b.drop (k + 1)) := by
  rw [drop_at8 h1, drop_at8 h2, befB, if_pos rfl]
theorem befB_diff8 {a b : List Int} {k : Nat} {x y : Int} (h1 : a[k]? = some x) (h2 : b[k]? = some y) (hne : x ≠ y) : befB (a.drop k) (b.drop k) = decide (x < y) := by
  rw [drop_at8 h1, drop_at8 h2, befB, if_neg hne]
theorem befB_end8 {a b : List Int} {k : Nat} (h : a.length ≤ k ∨ b.length ≤ k) (ha : k ≤ a.length) (hb : k ≤ b.length) : befB (a.drop k) (b.drop k) = decide (a.length < b.length) := by
  by_cases h1 : a.length ≤ k
  · rw [List.drop_of_length_le h1]
    by_cases h2 : b.length ≤ k
    · rw [List.drop_of_length_le h2, befB]
      simp; omega
    · obtain ⟨y, hy⟩ := get_of_lt (show k < b.length by omega)
      rw [drop_at8 hy, befB]
      simp; omega
  · have h2 : b.length ≤ k := by omega
    rw [List.drop_of_length_le h2]
    obtain ⟨x, hx⟩ := get_of_lt (show k < a.length by omega)
    rw [drop_at8 hx, befB]
    simp; omega

set_option maxRecDepth 100000 in
set_option maxHeartbeats 2000000 in
theorem before8_any (a b : Option Addr) (ca cb : Nat) (s t : List Int) (w : World) (h1 : IntsAt w a s) (h2 : IntsAt w b t) (hm : s.length ≤ 1000) (hm2 : t.length ≤ 1000) :
    Calls Try.prog 87 #[.slice a s.length ca, .slice b t.length cb] w fun e w' => e = .returned (.bool (befB s t)) ∧ Below w.heap.size w w' := by
  go_enter Try.func87, Try.ntmps87
  go_wp2_with fail
  go_loopw [5] (fun s5 wr => ∃ k : Nat, k ≤ s.length ∧ k ≤ t.length ∧ s5 = .int .i64 k ∧ befB (s.drop k) (t.drop k) = befB s t ∧ Below w.heap.size w wr) (fun s5 _ => s.length - (intOf s5).toNat)
  case atStart => exact ⟨0, Nat.zero_le _, Nat.zero_le _, rfl, rfl, Below.refl _ _⟩
  case round =>
    obtain ⟨k, hk1, hk2, rfl, hbe, hB⟩ := hrel
    have HB := Lib.hid hB
    by_cases hlt : k < s.length
    · by_cases hlt2 : k < t.length
      · obtain ⟨b1, o1, x, rfl, hlb1, hx, x0⟩ := (h1.below hB (Nat.le_refl _)).at_ hlt
        obtain ⟨b2, o2, y, rfl, hlb2, hy, y0⟩ := (h2.below hB (Nat.le_refl _)).at_ hlt2
        by_cases hxy : x = y
        · subst hxy
          have HE := Lib.hid ((befB_same8 hx hy).symm.trans hbe)
          have hxx : (x != x) = false := by simp
          clear hx hy h1 h2 hbe hB
          go_wp2_with fail
          go_quiet (fail)
          go_wp2_with fail
          go_roundw
          case rel => exact ⟨k + 1, by omega, by omega, by go_num, HE.out, HB.out.trans (Below.mono ⟨rfl, rfl, rfl, Nat.le_refl _, fun _ _ => rfl⟩ HB.out.size)⟩
          case measure => simp [intOf]; omega
        · have HE := Lib.hid ((befB_diff8 hx hy hxy).symm.trans hbe)
          have hxx : (x != y) = true := by simpa using hxy
          clear hx hy h1 h2 hbe hB hxy
          go_wp2_with fail
          go_quiet (fail)
          go_wp2_with fail
          go_quiet (fail)
          go_wp2_with fail
          go_ret
          exact ⟨ret_bool HE.out, HB.out.trans (Below.mono ⟨rfl, rfl, rfl, Nat.le_refl _, fun _ _ => rfl⟩ HB.out.size)⟩
      · have HE := Lib.hid ((befB_end8 (.inr (by omega)) hk1 hk2).symm.trans hbe)
        have hd : decide ((k : Int) < (t.length : Int)) = false := by simp; omega
        clear hbe hB h1 h2
        go_wp2_with fail
        go_ret
        exact ⟨ret_bool (by rw [← HE.out]), HB.out⟩
    · have HE := Lib.hid ((befB_end8 (.inl (by omega)) hk1 hk2).symm.trans hbe)
      have hd : decide ((k : Int) < (s.length : Int)) = false := by simp; omega
      clear hbe hB h1 h2
      go_wp2_with fail
      go_ret
      exact ⟨ret_bool (by rw [← HE.out]), HB.out⟩


set_option maxRecDepth 100000 in
set_option maxHeartbeats 1000000 in
theorem subset8_any (S n : Nat) (hn : n ≤ 10) (hS : S < 2 ^ n) (w : World) :
    Calls Try.prog 85 #[.int .i64 S, .int .i64 n] w (GivesInts (numsK S) w) := by
  obtain ⟨i0, hi, hz0, hz1, hz2⟩ := info_parts info_int
  rw [← nums_flt hn hS]
  have hS2 := two_lt hn hS
  have HS := Lib.hid hS2
  clear hS
  go_enter Try.func85, Try.ntmps85
  go_wp2_with fail
  go_loopw [5, 6] (fun s5 s6 wr => ∃ k : Nat, k ≤ n ∧ s6 = .int .i64 k ∧ wr.ownsRow w.heap.size 3 1 s5 (fltL (fun i => S.testBit i) k).length ((fltL (fun i => S.testBit i) k).map (Value.int .i64)) ∧ Below w.heap.size w wr) (fun _ s6 _ => n - (intOf s6).toNat)
  case atStart => exact ⟨0, Nat.zero_le _, rfl, World.ownsRow_nil _ _ _ _, Below.refl _ _⟩
  case round =>
    obtain ⟨k, hk, rfl, hown, hB⟩ := hrel
    by_cases hlt : k < n
    · have h4 : min k 64 = k := by omega
      have h6 := bit_and8 (k := k) HS.out
      have h7 := bit_one8 HS.out (show k < 10 by omega)
      cases hb : S.testBit k
      · rw [hb] at h7
        have hE := fltL_no (p := fun i => S.testBit i) hb
        have HO := Lib.hid hown
        have HE := Lib.hid hE
        have HB := Lib.hid hB
        clear hown hb hE hB
        go_wp2_with fail
        go_roundw
        case rel => exact ⟨k + 1, by omega, by go_num, by rw [HE.out]; exact HO.out, HB.out⟩
        case measure => simp [intOf]; omega
      · rw [hb] at h7
        have HE := Lib.hid (fltL_yes (p := fun i => S.testBit i) hb)
        have hl := fltL_len (fun i => S.testBit i) k
        obtain ⟨av, cv, rfl⟩ := own_slice hown
        clear hb
        go_wp2_with (at_builtin; refine wpList_append_own _ rfl (.tmp 17) (.tmp 19) 23 rfl w.heap.size 3 i0 (.int .i64 0) 1 8 Try.underlying23 hi hz0 hz1 hz2 rfl (by decide) _ _ _ rfl (hown.alloc _) ⟨wr.heap.size, 0, none⟩ 1 1 [.int .i64 k] rfl rfl ?c1 ?c2 ?c3 ?c4 ?c5 ?_)
        case c1 => exact cell_one_new _ _ _
        case c2 => simp [Value.oneCell']
        case c3 => unfold maxLen; omega
        case c4 => omega
        case c5 => have := hB.size; simp; omega
        intro v' w1 hown' hgrow _
        obtain ⟨ho1, hB1⟩ := own_push8 hown hB hown' hgrow HE.out
        have HO := Lib.hid ho1
        have HB := Lib.hid hB1
        clear hown hown' hgrow ho1 hB1 hB
        go_wp2_with fail
        go_roundw
        case rel => exact ⟨k + 1, by omega, by go_num, HO.out, HB.out⟩
        case measure => simp [intOf]; omega
    · obtain rfl : k = n := by omega
      have HO := Lib.hid hown
      clear hown
      go_wp2_with fail
      go_ret
      exact givesInts_of rfl HO.out hB

end Go.Proofs.Ytmigkbimdjiigaa

/- Suites of the document: the cheapest cover, Cover, Cheapest: contracts. -/
set_option linter.unusedVariables false
set_option linter.unusedSimpArgs false
namespace Tinker
/-- The sum of the costs of rows, and of a set of them. -/
def sumC (c : List Int) (l : List Int) : Nat := l.foldl (fun s r => s + (c.getD r.toNat 0).toNat) 0
def keyC (c : List Int) (S : Nat) : Nat := sumC c (numsK S)
theorem sumC_take {c l : List Int} {k : Nat} {r : Int} (h : l[k]? = some r) : sumC c (l.take (k + 1)) = sumC c (l.take k) + (c.getD r.toNat 0).toNat := by
  unfold sumC
  rw [List.take_add_one, h, List.foldl_append]
  rfl
theorem sumC_le {c : List Int} (hc : ∀ x ∈ c, 0 ≤ x ∧ x ≤ 1000) : ∀ (l : List Int), sumC c l ≤ 1000 * l.length := by
  intro l
  unfold sumC
  have key : ∀ (l : List Int) (a : Nat), l.foldl (fun s r => s + (c.getD r.toNat 0).toNat) a ≤ a + 1000 * l.length := by
    intro l
    induction l with
    | nil => intro a; simp
    | cons x r ih =>
      intro a
      rw [List.foldl_cons]
      have h1 : (c.getD x.toNat 0).toNat ≤ 1000 := by
        rw [List.getD_eq_getElem?_getD]
        cases hx : c[x.toNat]? with
        | none => simp
        | some y => have := hc y (List.mem_of_getElem? hx); simp; omega
      have := ih (a + (c.getD x.toNat 0).toNat)
      simp only [List.length_cons]
      omega
  simpa using key l 0
/-- The answer of the search so far. -/
def outC : Option Nat → List Int
  | none => []
  | some m => numsK m
def lstC (c : List Int) : Option Nat → Int
  | none => -1
  | some m => keyC c m
theorem outC_le (o : Option Nat) : (outC o).length ≤ 10 := by
  cases o with
  | none => simp [outC]
  | some m => exact szK_le m
/-- The document's cheapest cover. -/
def cheD (t : List (List Int)) (c : List Int) : Option Nat := bstT (keyC c) (covB (tblM t)) (2 ^ t.length)
theorem bstT_no {key : Nat → Nat} {P : Nat → Bool} {k : Nat} (h : P k = false) : bstT key P (k + 1) = bstT key P k := by rw [bstT, if_neg (by simp [h])]
def stpB (key : Nat → Nat) (k : Nat) : Option Nat → Option Nat
  | none => some k
  | some m => if betB key k m then some k else some m
theorem bstT_yes {key : Nat → Nat} {P : Nat → Bool} {k : Nat} (h : P k = true) : bstT key P (k + 1) = stpB key k (bstT key P k) := by
  rw [bstT, if_pos h]
  cases bstT key P k <;> rfl
end Tinker
namespace Go.Proofs.Ytmigkbimdjiigaa
open Go.RowKit Tinker

theorem pow_shl8 {n : Nat} (h : n ≤ 10) : IntKind.i64.wrap (2 ^ n) = ((2 ^ n : Nat) : Int) := by
  have h2 : 2 ^ n ≤ 2 ^ 10 := Nat.pow_le_pow_right (by omega) h
  rw [powi8]
  generalize 2 ^ n = P at *
  exact IntWalk.i64_in _ (by omega)
set_option maxRecDepth 100000 in
set_option maxHeartbeats 8000000 in
theorem rCheap_any (a b : Option Addr) (ca cb : Nat) (t : List (List Int)) (c : List Int) (w : World) (ht : RowsAt w a t) (hr : IntsAt w b c) (hv : vsu t = 0) (hl : c.length = t.length) (hc : ∀ x ∈ c, 0 ≤ x ∧ x ≤ 1000) :
    Calls Try.prog 74 #[.slice a t.length ca, .slice b c.length cb] w fun e w' => ∃ d k, e = .returned (.tuple #[.slice d (outC (cheD t c)).length k, .int .i64 (lstC c (cheD t c))]) ∧ w'.ownsRow w.heap.size 3 1 (.slice d (outC (cheD t c)).length k) (outC (cheD t c)).length ((outC (cheD t c)).map (Value.int .i64)) ∧ Below w.heap.size w w' := by
  have hl8 := (vsu_ok hv).1
  have hsv := tblM_lt hv
  have HO := Lib.hid (fun w ht => rOpenL_any a ca t w ht hv)
  have hmz : ∀ S, S < 2 ^ t.length → metM (tblM t) (maskM (numsK S)) = metM (tblM t) S := fun S hS => by rw [mask_numsK (lt_K hl8 hS)]
  have hrn : ∀ S, S < 2 ^ t.length → ∀ x ∈ numsK S, 0 ≤ x ∧ x < (t.length : Int) := fun S hS x hx => by
    rw [← nums_flt (by omega) hS] at hx
    obtain ⟨i, rfl, h1, _⟩ := fltL_mem.1 hx
    omega
  have HRN := Lib.hid hrn
  have HME := Lib.hid (fun (S : Nat) (hS : S < 2 ^ t.length) b cb w ht hr => show Calls Try.prog 65 #[.slice a t.length ca, .slice b (numsK S).length cb] w (GivesInts (numsK (metM (tblM t) S)) w) from by
    have h := rMet_any a b ca cb t (numsK S) w ht hr hv (hrn S hS) (Nat.le_trans (szK_le S) (by omega))
    rwa [hmz S hS] at h)
  have HCV := Lib.hid (fun S => show covB (tblM t) S = (((numsK (metM (tblM t) S)).length : Int) == ((numsK (openM (tblM t))).length : Int)) from by
    rw [cov_sz hsv S, Bool.eq_iff_iff, beq_iff_eq, beq_iff_eq]; unfold szK; omega)
  have HT := Lib.hid ht
  have HR := Lib.hid hr
  have HSM := Lib.hid (fun l => sumC_le hc l)
  have HCC := Lib.hid hc
  unfold cheD
  clear ht hr hsv hmz hrn hv hc
  have hpow : 2 ^ t.length ≤ 2 ^ 8 := Nat.pow_le_pow_right (by omega) hl8
  have HSH := Lib.hid (fun n (h : n ≤ 10) => pow_shl8 h)
  have hq := HSH.out t.length (by omega)
  have h4 : min t.length 64 = t.length := by omega
  generalize hPN : 2 ^ t.length = PN at *
  generalize tblM t = s at *
  generalize numsK (openM s) = OO at *
  have HS8 := Lib.hid (fun S (hS : S < PN) w => subset8_any S t.length (by omega) (by rw [hPN]; exact hS) w)
  have HBF := Lib.hid (fun a b ca cb s t w h1 h2 hm hm2 => before8_any a b ca cb s t w h1 h2 hm hm2)
  go_enter Try.func74, Try.ntmps74
  go_wp2_with fail
  refine (HO.out _ HT.out).mono ?_
  rintro e w1 ⟨a1, c1, rfl, -, hB1⟩
  go_wp2_with fail
  go_loopw [7, 8, 9] (fun s7 s8 s9 wr => ∃ k : Nat, k ≤ PN ∧ s9 = .int .i64 k ∧ wr.ownsRow w.heap.size 3 1 s7 (outC (bstT (keyC c) (covB s) k)).length ((outC (bstT (keyC c) (covB s) k)).map (Value.int .i64)) ∧ s8 = .int .i64 (lstC c (bstT (keyC c) (covB s) k)) ∧ Below w.heap.size w wr) (fun _ _ s9 _ => PN - (intOf s9).toNat)
  case atStart => exact ⟨0, Nat.zero_le _, rfl, World.ownsRow_nil _ _ _ _, rfl, hB1⟩
  case round =>
    clear hB1
    obtain ⟨k, hk, rfl, hown, rfl, hB⟩ := hrel
    obtain ⟨av, cv, rfl⟩ := own_slice hown
    have hol := outC_le (bstT (keyC c) (covB s) k)
    have HOW := Lib.hid hown
    have HB := Lib.hid hB
    clear hown hB
    by_cases hlt : k < PN
    · have HSS := Lib.hid (HS8.out k hlt)
      have hzl := szK_le k
      unfold szK at hzl
      have HMM := Lib.hid (HME.out k hlt)
      have HC := Lib.hid (HCV.out k)
      have HNN := Lib.hid (fun h => bstT_no (key := keyC c) (P := covB s) (k := k) h)
      have HYY := Lib.hid (fun h => bstT_yes (key := keyC c) (P := covB s) (k := k) h)
      have HRR := Lib.hid (HRN.out k hlt)
      have HKY := Lib.hid (show keyC c k = sumC c (numsK k) from rfl)
      have HBT := Lib.hid (fun m => show betB (keyC c) k m = (decide (sumC c (numsK k) < keyC c m) || (sumC c (numsK k) == keyC c m && befB (numsK k) (numsK m))) from rfl)
      generalize bstT (keyC c) (covB s) k = o at *
      go_wp2_with fail
      refine (HSS.out _).mono ?_
      rintro e w2 ⟨a2, c2, rfl, ho2, hB⟩
      have HB2 := Lib.hid (HB.out.trans (hB.mono HB.out.size))
      have HOW2 := Lib.hid (own_below HOW.out hB (Nat.le_refl _))
      have HSU := Lib.hid (own_mono ho2 HB.out.size)
      have HI2 := Lib.hid (ints_of_own ho2).1
      clear ho2 hB HSS
      go_wp2_with fail
      refine (HMM.out _ _ _ (HT.out.below HB2.out (Nat.le_refl _)) HI2.out).mono ?_
      rintro e w3 ⟨a3, c3, rfl, -, hB⟩
      have HB3 := Lib.hid (HB2.out.trans (hB.mono HB2.out.size))
      have HOW3 := Lib.hid (own_below HOW2.out hB (Nat.le_refl _))
      have HSU3 := Lib.hid (own_below HSU.out hB (Nat.le_refl _))
      have HI3 := Lib.hid (HI2.out.below hB (Nat.le_refl _))
      clear hB HMM HB2 HOW2 HSU HI2
      generalize numsK (metM s k) = MK at *
      cases hcv : covB s k
      · have hne : ((MK.length : Int) != (OO.length : Int)) = true := by
          have h := HC.out
          rw [hcv] at h
          rw [bne, ← h]; rfl
        have HE := Lib.hid (HNN.out hcv)
        clear hcv HC
        go_wp2_with fail
        go_roundw
        case rel => exact ⟨k + 1, by omega, by go_num, by rw [HE.out]; exact HOW3.out, by rw [HE.out], HB3.out⟩
        case measure => simp [intOf]; omega
      · have hne : ((MK.length : Int) != (OO.length : Int)) = false := by
          have h := HC.out
          rw [hcv] at h
          rw [bne, ← h]; rfl
        have HYE := Lib.hid (HYY.out hcv)
        clear hcv HC HYY HNN
        have HON := Lib.hid (show outC (some k) = numsK k from rfl)
        generalize numsK k = R at *
        have HRS := Lib.hid HSU3.out
        have HXL := Lib.hid (HSM.out R)
        obtain ⟨W0, hW0⟩ : ∃ W, W = w3 := ⟨_, rfl⟩
        subst hW0
        go_wp2_with fail
        go_loopw [11, 12] (fun s11 s12 wx => ∃ j : Nat, j ≤ R.length ∧ s12 = .int .i64 j ∧ s11 = .int .i64 (sumC c (R.take j) : Nat) ∧ wx = W0) (fun _ s12 _ => R.length - (intOf s12).toNat)
        case atStart => exact ⟨0, Nat.zero_le _, rfl, by simp [sumC], rfl⟩
        case round =>
          obtain ⟨j, hj, rfl, rfl, rfl⟩ := hrel
          by_cases hjl : j < R.length
          · obtain ⟨b2, off2, x, rfl, hlb2, hx, hcx⟩ := HI3.out.at_ hjl
            obtain ⟨x0, x1⟩ := HRR.out x (mem_of_get hx)
            obtain ⟨r, rfl⟩ : ∃ r : Nat, x = (r : Int) := ⟨x.toNat, by omega⟩
            obtain ⟨b3, off3, y, rfl, hlb3, hy, hcy⟩ := (HR.out.below HB3.out (Nat.le_refl _)).at_ (show r < c.length by omega)
            obtain ⟨y0, y1⟩ := HCC.out y (mem_of_get hy)
            have hq0 := HSM.out (R.take j)
            have hq1 : (R.take j).length ≤ 10 := by rw [List.length_take]; omega
            have HX := Lib.hid (show ((sumC c (R.take (j + 1)) : Nat) : Int) = ((sumC c (R.take j) : Nat) : Int) + y from by
              rw [sumC_take hx, show ((r : Int)).toNat = r from rfl, getD_of_get hy]; omega)
            clear hx hy
            generalize sumC c (R.take j) = Q at *
            go_wp2_with fail
            go_roundw
            case rel => exact ⟨j + 1, by omega, by go_num, by rw [HX.out], trivial⟩
            case measure => simp [intOf]; omega
          · obtain rfl : j = R.length := by omega
            rw [List.take_length]
            generalize sumC c R = X at *
            have HB5 := HB3
            cases o with
            | none =>
              have HE3 := Lib.hid (show bstT (keyC c) (covB s) (k + 1) = some k from HYE.out)
              have hd : decide ((-1 : Int) < 0) = true := rfl
              have e9 : lstC c none = -1 := rfl
              rw [e9]
              go_wp2_with fail
              go_roundw
              case rel => exact ⟨k + 1, by omega, by go_num, by rw [HE3.out, HON.out]; exact HRS.out, by rw [HE3.out]; exact congrArg (fun z : Nat => Value.int .i64 (z : Int)) HKY.out.symm, HB3.out⟩
              case measure => simp [intOf]; omega
            | some m =>
              have HYB := Lib.hid (show bstT (keyC c) (covB s) (k + 1) = if betB (keyC c) k m then some k else some m from HYE.out)
              have HOM := Lib.hid (show outC (some m) = numsK m from rfl)
              have e9 : lstC c (some m) = (keyC c m : Int) := rfl
              rw [e9]
              rw [HBT.out m] at HYB
              clear e9
              have hM0 := HSM.out (numsK m)
              have hM1 := szK_le m
              have hkm : keyC c m = sumC c (numsK m) := rfl
              unfold szK at hM1
              rw [← hkm] at hM0
              rw [HOM.out]
              rw [HOM.out] at HOW3 hol
              have HKMM0 := Lib.hid (show lstC c (some m) = (keyC c m : Int) from rfl)
              generalize hKM : keyC c m = M at *
              have HKMM := Lib.hid (congrArg (Value.int .i64) HKMM0.out.symm)
              generalize hBM : befB R (numsK m) = BB at *
              have HBC := Lib.hid (fun w h1 h2 => show Calls Try.prog 87 #[.slice a2 R.length c2, .slice av (numsK m).length cv] w fun e w' => e = .returned (.bool BB) ∧ Below w.heap.size w w' from by
                rw [← hBM]; exact HBF.out a2 av c2 cv R (numsK m) w h1 h2 (by omega) (by omega))
              have HI4 := Lib.hid (ints_of_own HOW3.out).1
              have hMn : decide ((M : Int) < 0) = false := decide_eq_false (by omega)
              have HOM2 := Lib.hid (show outC (some m) = numsK m from rfl)
              clear hKM hBM hkm
              generalize numsK m = NM at *
              rcases Nat.lt_trichotomy X M with h | h | h
              · have hd : decide ((X : Int) < (M : Int)) = true := by simp; omega
                have HE3 := Lib.hid (show bstT (keyC c) (covB s) (k + 1) = some k from HYB.out.trans (if_pos (by simp [h])))
                have hd' : decide (X < M) = true := decide_eq_true h
                go_wp2_with fail
                go_roundw
                case rel => exact ⟨k + 1, by omega, by go_num, by rw [HE3.out, HON.out]; exact HRS.out, by rw [HE3.out]; exact congrArg (fun z : Nat => Value.int .i64 (z : Int)) HKY.out.symm, HB3.out⟩
                case measure => simp [intOf]; omega
              · subst h
                have hd : decide ((X : Int) < (X : Int)) = false := by simp
                have hd2 : ((X : Int) == (X : Int)) = true := by simp
                cases BB
                · have HE3 := Lib.hid (show bstT (keyC c) (covB s) (k + 1) = some m from HYB.out.trans (if_neg (by simp)))
                  go_wp2_with fail
                  refine (HBC.out _ HI3.out HI4.out).mono ?_
                  rintro e w4 ⟨rfl, hB⟩
                  have HOW5 := Lib.hid (own_below HOW3.out hB (Nat.le_refl _))
                  have HB5 := Lib.hid (HB3.out.trans (hB.mono HB3.out.size))
                  clear hB
                  go_wp2_with fail
                  go_roundw
                  case rel => exact ⟨k + 1, by omega, by go_num, by rw [HE3.out, HOM2.out]; exact HOW5.out, by rw [HE3.out]; exact HKMM.out, HB5.out⟩
                  case measure => simp [intOf]; omega
                · have HE3 := Lib.hid (show bstT (keyC c) (covB s) (k + 1) = some k from HYB.out.trans (if_pos (by simp)))
                  go_wp2_with fail
                  refine (HBC.out _ HI3.out HI4.out).mono ?_
                  rintro e w4 ⟨rfl, hB⟩
                  have HRS5 := Lib.hid (own_below HRS.out hB (Nat.le_refl _))
                  have HB5 := Lib.hid (HB3.out.trans (hB.mono HB3.out.size))
                  clear hB
                  go_wp2_with fail
                  go_roundw
                  case rel => exact ⟨k + 1, by omega, by go_num, by rw [HE3.out, HON.out]; exact HRS5.out, by rw [HE3.out]; exact congrArg (fun z : Nat => Value.int .i64 (z : Int)) HKY.out.symm, HB5.out⟩
                  case measure => simp [intOf]; omega
              · have hd : decide ((X : Int) < (M : Int)) = false := by simp; omega
                have hd2 : ((X : Int) == (M : Int)) = false := by rw [beq_eq_false_iff_ne]; omega
                have HE3 := Lib.hid (show bstT (keyC c) (covB s) (k + 1) = some m from HYB.out.trans (if_neg (by simp; omega)))
                go_wp2_with fail
                go_roundw
                case rel => exact ⟨k + 1, by omega, by go_num, by rw [HE3.out, HOM2.out]; exact HOW3.out, by rw [HE3.out]; exact HKMM.out, HB3.out⟩
                case measure => simp [intOf]; omega
    · obtain rfl : k = PN := by omega
      go_wp2_with fail
      go_ret2
      exact ⟨_, _, rfl, HOW.out, HB.out⟩

end Go.Proofs.Ytmigkbimdjiigaa

/- Suites of the document: Cover: contract. -/
set_option linter.unusedVariables false
set_option linter.unusedSimpArgs false
namespace Tinker
theorem bst_key {k1 k2 : Nat → Nat} {P : Nat → Prop} {b : Nat} (h : IsBst k1 P b) (e : ∀ x, P x → k1 x = k2 x) : IsBst k2 P b :=
  ⟨h.1, fun x hx hne => by
    have := h.2 x hx hne
    unfold betB at this ⊢
    rw [e b h.1, e x hx] at this
    exact this⟩
/-- The document's cheapest cover is there, and the best. -/
theorem cheD_some {t : List (List Int)} (hl : t.length ≤ 8) (c : List Int) : ∃ b, cheD t c = some b ∧ IsBst (keyC c) (fun x => x < 2 ^ t.length ∧ covB (tblM t) x = true) b := by
  have hp : 2 ^ t.length ≤ 2 ^ 8 := Nat.pow_le_pow_right (by omega) hl
  unfold cheD
  rcases bstT_some (key := keyC c) (P := covB (tblM t)) (k := 2 ^ t.length) (by omega) with ⟨_, h⟩ | h
  · exfalso
    have h1 := covM_lt (s := tblM t) (by rw [tblM_len]; exact hl)
    rw [tblM_len] at h1
    have h2 := covM_cov (s := tblM t) (by rw [tblM_len]; exact hl)
    rw [h _ h1] at h2
    cases h2
  · exact h
def onesL (n : Nat) : List Int := List.replicate n 1
theorem ones_in (n : Nat) : ∀ x ∈ onesL n, 0 ≤ x ∧ x ≤ 1000 := fun x hx => by
  rw [List.eq_of_mem_replicate hx]; omega
theorem ones_sum {n : Nat} : ∀ {l : List Int}, (∀ x ∈ l, 0 ≤ x ∧ x < (n : Int)) → sumC (onesL n) l = l.length := by
  intro l
  unfold sumC
  have key : ∀ (l : List Int) (a : Nat), (∀ x ∈ l, 0 ≤ x ∧ x < (n : Int)) → l.foldl (fun s r => s + ((onesL n).getD r.toNat 0).toNat) a = a + l.length := by
    intro l
    induction l with
    | nil => intro a _; simp
    | cons x r ih =>
      intro a h
      obtain ⟨h1, h2⟩ := h x (by simp)
      have e : ((onesL n).getD x.toNat 0).toNat = 1 := by
        unfold onesL
        rw [List.getD_eq_getElem?_getD, List.getElem?_replicate, if_pos (by omega)]
        rfl
      rw [List.foldl_cons, e, ih _ (fun y hy => h y (List.mem_cons_of_mem _ hy))]
      simp only [List.length_cons]
      omega
  intro h
  simpa using key l 0 h
theorem nums_in {n S : Nat} (hn : n ≤ 10) (hS : S < 2 ^ n) : ∀ x ∈ numsK S, 0 ≤ x ∧ x < (n : Int) := fun x hx => by
  rw [← nums_flt hn hS] at hx
  obtain ⟨i, rfl, h1, _⟩ := fltL_mem.1 hx
  omega
theorem ones_key {n S : Nat} (hn : n ≤ 10) (hS : S < 2 ^ n) : keyC (onesL n) S = szK S := ones_sum (nums_in hn hS)
/-- With all costs 1, the cheapest cover is the smallest one. -/
theorem cheD_ones {t : List (List Int)} (hl : t.length ≤ 8) : cheD t (onesL t.length) = some (covM (tblM t)) := by
  obtain ⟨b, h1, h2⟩ := cheD_some hl (onesL t.length)
  have h3 := bst_key h2 (k2 := szK) fun x hx => ones_key (by omega) hx.1
  have h4 := covM_bst (s := tblM t) (by rw [tblM_len]; exact hl)
  rw [tblM_len] at h4
  rw [h1, bst_one h3 h4]
theorem ones_snoc (k : Nat) : onesL (k + 1) = onesL k ++ [1] := List.replicate_succ'
theorem ones_len (k : Nat) : (onesL k).length = k := List.length_replicate
end Tinker
namespace Go.Proofs.Ytmigkbimdjiigaa
open Go.RowKit Tinker

set_option maxRecDepth 100000 in
set_option maxHeartbeats 2000000 in
theorem rCover8_any (a : Option Addr) (ca : Nat) (t : List (List Int)) (w : World) (ht : RowsAt w a t) (hl : t.length ≤ 1000) (hm : ∀ z ∈ t, z.length ≤ 1000) :
    Calls Try.prog 31 #[.slice a t.length ca] w (GivesIntsE (coverL t) (vsu t) w) := by
  have HV := Lib.hid (rValidate8_any a ca t w ht hl hm)
  unfold coverL
  by_cases hv : vsu t = 0
  · rw [if_pos hv]
    rw [hv] at HV ⊢
    obtain ⟨i0, hi, hz0, hz1, hz2⟩ := info_parts info_int
    have hl8 := (vsu_ok hv).1
    have HC := Lib.hid (fun b cb w ht hr => by
      have h := rCheap_any a b ca cb t (onesL t.length) w ht hr hv (ones_len _) (ones_in _)
      rw [cheD_ones hl8, ones_len] at h
      exact h)
    have HT := Lib.hid ht
    clear ht hm hv
    have HQ := Lib.hid (show outC (some (covM (tblM t))) = numsK (covM (tblM t)) from rfl)
    generalize covM (tblM t) = C at *
    go_enter Try.func31, Try.ntmps31
    go_wp2_with fail
    refine HV.out.mono ?_
    rintro e w1 ⟨rfl, hB1⟩
    go_wp2_with fail
    go_loopw [5, 6] (fun s5 s6 wr => ∃ k : Nat, k ≤ t.length ∧ s6 = .int .i64 k ∧ wr.ownsRow w.heap.size 3 1 s5 (onesL k).length ((onesL k).map (Value.int .i64)) ∧ Below w.heap.size w wr) (fun _ s6 _ => t.length - (intOf s6).toNat)
    case atStart => exact ⟨0, Nat.zero_le _, rfl, World.ownsRow_nil _ _ _ _, hB1⟩
    case round =>
      clear HV hB1
      obtain ⟨k, hk, rfl, hown, hB⟩ := hrel
      have HLN := Lib.hid (ones_len k)
      have hl9 : (onesL k).length ≤ 8 := by rw [HLN.out]; omega
      by_cases hlt : k < t.length
      · obtain ⟨av, cv, rfl⟩ := own_slice hown
        have HB := Lib.hid hB
        have HN := Lib.hid (ones_snoc k)
        go_wp2_with (at_builtin; refine wpList_append_own _ rfl (.tmp 20) (.tmp 21) 23 rfl w.heap.size 3 i0 (.int .i64 0) 1 8 Try.underlying23 hi hz0 hz1 hz2 rfl (by decide) _ _ _ rfl (hown.alloc _) ⟨wr.heap.size, 0, none⟩ 1 1 [.int .i64 1] rfl rfl ?c1 ?c2 ?c3 ?c4 ?c5 ?_)
        try (case c1 => exact cell_one_new _ _ _)
        case c2 => simp [Value.oneCell']
        case c3 => unfold maxLen; omega
        case c4 => omega
        case c5 => have := HB.out.size; simp; omega
        intro v' w3 hown' hgrow _
        have HP := Lib.hid (own_push8 hown HB.out hown' hgrow HN.out)
        clear hown hown' hgrow hB
        go_wp2_with fail
        go_roundw
        case rel => exact ⟨k + 1, by omega, by go_num, HP.out.1, HP.out.2⟩
        case measure => simp [intOf]; omega
      · obtain rfl : k = t.length := by omega
        rw [HLN.out] at hown
        obtain ⟨av, cv, rfl⟩ := own_slice hown
        have HI := Lib.hid (ints_of_own (zs := onesL t.length) hown).1
        have HB := Lib.hid hB
        clear hown hB hl9
        go_wp2_with fail
        refine (HC.out _ _ _ (HT.out.below HB.out (Nat.le_refl _)) HI.out).mono ?_
        rintro e w4 ⟨a4, c4, rfl, ho, hB⟩
        have HO := Lib.hid (own_mono ho HB.out.size)
        have HB4 := Lib.hid (HB.out.trans (hB.mono HB.out.size))
        clear ho hB
        rw [HQ.out] at HO ⊢
        go_wp2_with fail
        go_ret2
        exact ⟨a4, c4, rfl, HO.out, HB4.out⟩
  · rw [if_neg hv]
    have hne : (vsu t != 0) = true := by simpa using hv
    clear hv ht hm
    go_enter Try.func31, Try.ntmps31
    go_wp2_with fail
    refine HV.out.mono ?_
    rintro e w' ⟨rfl, hB⟩
    go_wp2_with fail
    go_ret2
    exact ⟨none, 0, rfl, World.ownsRow_nil _ _ _ _, hB⟩

end Go.Proofs.Ytmigkbimdjiigaa
