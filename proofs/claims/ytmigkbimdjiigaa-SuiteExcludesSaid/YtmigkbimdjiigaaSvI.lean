/- Suites of the document: Excluding: contract. -/
import Derived.Test.YtmigkbimdjiigaaSvH
import Derived.Test.YtmigkbimdjiigaaSvE
set_option linter.unusedVariables false
set_option linter.unusedSimpArgs false
namespace Tinker
/-- The goals of a set that a row meets are so many. -/
theorem sum_filt {z : List Int} : ∀ {l : List Int}, (∀ g, z.getD g 0 = 0 ∨ z.getD g 0 = 1) → sumC z l = (l.filter fun g => z.getD g.toNat 0 == 1).length := by
  intro l h
  have key : ∀ (l : List Int) (a : Nat), l.foldl (fun s r => s + (z.getD r.toNat 0).toNat) a = a + (l.filter fun g => z.getD g.toNat 0 == 1).length := by
    intro l
    induction l with
    | nil => intro a; simp
    | cons x r ih =>
      intro a
      rw [List.foldl_cons, ih, List.filter_cons]
      rcases h x.toNat with e | e
      · rw [e]; simp
      · rw [e]; simp; omega
  unfold sumC
  simpa using key l 0
theorem sum_row {z : List Int} {S : Nat} (h : ∀ g, z.getD g 0 = 0 ∨ z.getD g 0 = 1) : sumC z (numsK S) = szK (rowM z &&& S) := by
  rw [sum_filt h]
  unfold szK
  congr 1
  refine pair_unique ((numsK_pair S).filter _) (numsK_pair _) fun x => ?_
  rw [List.mem_filter, numsK_mem, numsK_mem]
  constructor
  · rintro ⟨⟨n, rfl, h1, h2⟩, h3⟩
    exact ⟨n, rfl, h1, by rw [Nat.testBit_and, rowM_bit, h2]; simpa using h3⟩
  · rintro ⟨n, rfl, h1, h2⟩
    rw [Nat.testBit_and, Bool.and_eq_true, rowM_bit] at h2
    exact ⟨⟨n, rfl, h1, h2.2⟩, by simpa using h2.1⟩
theorem sum_le1 {z : List Int} (h : ∀ g, z.getD g 0 = 0 ∨ z.getD g 0 = 1) (l : List Int) : sumC z l ≤ l.length := by
  rw [sum_filt h]; exact List.length_filter_le _ _
theorem two_sum {z : List Int} {S : Nat} (h : ∀ g, z.getD g 0 = 0 ∨ z.getD g 0 = 1) : (!twoB S (rowM z)) = decide (sumC z (numsK S) < 2) := by
  unfold twoB
  rw [sum_row h, Bool.eq_iff_iff, Bool.not_eq_true', decide_eq_false_iff_not, decide_eq_true_eq]
  omega
/-- Whether goals are all open, and exclude each other in the first rows. -/
def excP (s : List Nat) (S r : Nat) : Bool := difK S (openM s) == 0 && (List.range r).all fun i => !twoB S (s.getD i 0)
theorem excP_succ (s : List Nat) (S r : Nat) : excP s S (r + 1) = (excP s S r && !twoB S (s.getD r 0)) := by
  unfold excP
  rw [List.range_succ, List.all_append, ← Bool.and_assoc]
  simp
theorem excP_zero (s : List Nat) (S : Nat) : excP s S 0 = (difK S (openM s) == 0) := by simp [excP]
theorem excP_all (s : List Nat) (S : Nat) : excP s S s.length = excB s S := by
  unfold excP excB
  congr 1
  rw [Bool.eq_iff_iff, List.all_eq_true, Bool.not_eq_true', List.any_eq_false]
  constructor
  · intro h x hx
    obtain ⟨i, hi⟩ := List.getElem?_of_mem hx
    have h1 := h i (List.mem_range.2 (List.getElem?_eq_some_iff.1 hi).1)
    rw [getD_of_get hi] at h1
    simpa using h1
  · intro h i hi
    rw [List.mem_range] at hi
    obtain ⟨x, hx⟩ := get_of_lt hi
    rw [getD_of_get hx]
    simpa using h x (List.mem_of_getElem? hx)
theorem excP_false {s : List Nat} {S r : Nat} (hr : r ≤ s.length) (h : excP s S r = false) : excB s S = false := by
  rw [← excP_all]
  have : ∀ d, r + d ≤ s.length → excP s S (r + d) = false := by
    intro d
    induction d with
    | zero => intro _; exact h
    | succ d ih => intro hd; rw [← Nat.add_assoc, excP_succ, ih (by omega)]; rfl
  have h2 := this (s.length - r) (by omega)
  rwa [show r + (s.length - r) = s.length by omega] at h2
/-- The document's search: the best so far. -/
def keyE (x : Nat) : Nat := 10 - szK x
def excN (s : List Nat) : Nat → Nat
  | 0 => 0
  | k + 1 => if excB s k && betB keyE k (excN s k) then k else excN s k
theorem keyE_bet (k m : Nat) : betB keyE k m = (decide (szK m < szK k) || (szK k == szK m && befB (numsK k) (numsK m))) := by
  unfold betB keyE
  have h1 := szK_le k
  have h2 := szK_le m
  rw [show decide (10 - szK k < 10 - szK m) = decide (szK m < szK k) from decide_eq_decide.2 (by omega)]
  rw [show (10 - szK k == 10 - szK m) = (szK k == szK m) from by rw [Bool.eq_iff_iff, beq_iff_eq, beq_iff_eq]; omega]
theorem bet_self (m : Nat) : betB keyE m m = false := by
  rw [Bool.eq_false_iff]
  intro h
  have := betB_asym h
  rw [h] at this
  cases this
theorem excN_bst (s : List Nat) : ∀ k, bstT keyE (excB s) (k + 1) = some (excN s (k + 1))
  | 0 => by
    rw [bstT, if_pos (exc_zero s), excN, excN, bet_self]
    simp [bstT]
  | k + 1 => by
    rw [bstT, excN_bst s k, excN.eq_2 s (k + 1)]
    cases hP : excB s (k + 1)
    · simp
    · rw [if_pos rfl]
      cases hb : betB keyE (k + 1) (excN s (k + 1)) <;> simp [hb]
theorem excN_eq {s : List Nat} {n : Nat} (hn : n ≤ 10) : excN s (2 ^ n) = excM s n := by
  have hp : 2 ^ n ≤ 2 ^ 10 := Nat.pow_le_pow_right (by omega) hn
  have h1 := Nat.one_le_two_pow (n := n)
  obtain ⟨k, hk⟩ : ∃ k, 2 ^ n = k + 1 := ⟨2 ^ n - 1, by omega⟩
  have h2 := excN_bst s k
  rw [← hk] at h2
  rcases bstT_some (key := keyE) (P := excB s) (k := 2 ^ n) (by omega) with ⟨h, _⟩ | ⟨b, h, h3⟩
  · rw [h] at h2; cases h2
  · rw [h2] at h
    injection h with h
    rw [h]
    exact bst_one h3 (excM_bst hn)
theorem excN_no {s : List Nat} {k : Nat} (h : (excB s k && betB keyE k (excN s k)) = false) : excN s (k + 1) = excN s k := by rw [excN, h]; rfl
theorem excN_yes {s : List Nat} {k : Nat} (h : (excB s k && betB keyE k (excN s k)) = true) : excN s (k + 1) = k := by rw [excN, if_pos h]
theorem all_takeB {l : List Int} {p : Int → Bool} {k : Nat} {x : Int} (h : l[k]? = some x) : (l.take (k + 1)).all p = ((l.take k).all p && p x) := by
  rw [List.take_add_one, h, List.all_append]; simp
end Tinker
namespace Go.Proofs.Ytmigkbimdjiigaa
open Go.RowKit Tinker

theorem open_has {S O : Nat} (hS : S < 1024) : ((numsK S).all fun g => hasB (numsK O) g) = (difK S O == 0) := by
  rw [Bool.eq_iff_iff, List.all_eq_true, beq_iff_eq, difK_zero]
  constructor
  · intro h i hi
    have h1 := h i (numsK_memN.2 ⟨bit_ltK hS hi, hi⟩)
    obtain ⟨y, hy, e⟩ := List.any_eq_true.1 h1
    have e2 : y = (i : Int) := by simpa using e
    rw [e2] at hy
    exact (numsK_memN.1 hy).2
  · intro h x hx
    obtain ⟨n, rfl, h1, h2⟩ := numsK_mem.1 hx
    exact List.any_eq_true.2 ⟨(n : Int), numsK_memN.2 ⟨h1, h n h2⟩, by simp⟩

set_option maxRecDepth 100000 in
set_option maxHeartbeats 8000000 in
theorem rExcl8_any (a : Option Addr) (ca : Nat) (t : List (List Int)) (w : World) (ht : RowsAt w a t) (hl : t.length ≤ 1000) (hm : ∀ z ∈ t, z.length ≤ 1000) :
    Calls Try.prog 35 #[.slice a t.length ca] w (GivesIntsE (exclL t) (vsu t) w) := by
  have HV := Lib.hid (rValidate8_any a ca t w ht hl hm)
  unfold exclL
  by_cases hv : vsu t = 0
  · rw [if_pos hv]
    rw [hv] at HV ⊢
    obtain ⟨hl8, hg10, hrz⟩ := vsu_ok hv
    rw [← excN_eq hg10]
    have HO := Lib.hid (fun w ht => rOpenL_any a ca t w ht hv)
    have HG := Lib.hid (fun w ht => rGoals8_any a ca t w ht)
    have HT := Lib.hid ht
    have HZ := Lib.hid (fun (r : Nat) (z : List Int) (h : t[r]? = some z) => zero_one hv (List.mem_of_getElem? h))
    have HZL := Lib.hid (fun (r : Nat) (z : List Int) (h : t[r]? = some z) => (hrz z (List.mem_of_getElem? h)).1)
    have HTS := Lib.hid (fun (r : Nat) (z : List Int) (h : t[r]? = some z) => getD_of_get (d := 0) (tblM_get h))
    have hpow : 2 ^ goalsN t ≤ 2 ^ 10 := Nat.pow_le_pow_right (by omega) hg10
    have hq := pow_shl8 hg10
    have h4 : min (goalsN t) 64 = goalsN t := by omega
    have HS8 := Lib.hid (fun S (hS : S < 2 ^ goalsN t) w => subset8_any S (goalsN t) hg10 hS w)
    have HRN := Lib.hid (fun S (hS : S < 2 ^ goalsN t) => nums_in hg10 hS)
    have HSL := Lib.hid (tblM_len t)
    clear ht hm hv hl hrz
    generalize tblM t = s at *
    have hsl : s.length ≤ 8 := by rw [HSL.out]; exact hl8
    generalize goalsN t = G at *
    generalize 2 ^ G = PN at *
    have HBF := Lib.hid (fun a b ca cb s t w h1 h2 hm hm2 => before8_any a b ca cb s t w h1 h2 hm hm2)
    have HHS := Lib.hid (fun a c n w h hm => rHas8_any a c (numsK (openM s)) n w h hm)
    have HOP := Lib.hid (fun S (hS : S < 1024) => open_has (O := openM s) hS)
    have hol := szK_le (openM s)
    unfold szK at hol
    generalize numsK (openM s) = OP at *
    go_enter Try.func35, Try.ntmps35
    go_wp2_with fail
    refine HV.out.mono ?_
    rintro e w0 ⟨rfl, hB0⟩
    have HB0 := Lib.hid hB0
    clear hB0 HV
    go_wp2_with fail
    refine (HO.out _ (HT.out.below HB0.out (Nat.le_refl _))).mono ?_
    rintro e w1 ⟨a1, c1, rfl, ho1, hB1⟩
    have HI1 := Lib.hid (ints_of_own ho1).1
    have HB1 := Lib.hid (HB0.out.trans (hB1.mono HB0.out.size))
    obtain ⟨W1, hW1⟩ : ∃ W, W = w1 := ⟨_, rfl⟩
    subst hW1
    clear ho1 hB1 HB0
    go_wp2_with fail
    go_loopw [6, 7] (fun s6 s7 wr => ∃ k : Nat, k ≤ PN ∧ s7 = .int .i64 k ∧ wr.ownsRow w.heap.size 3 1 s6 (numsK (excN s k)).length ((numsK (excN s k)).map (Value.int .i64)) ∧ Below w.heap.size w wr ∧ Below W1.heap.size W1 wr) (fun _ s7 _ => PN - (intOf s7).toNat)
    case atStart =>
      have h0 : numsK (excN s 0) = [] := (by decide : numsK 0 = [])
      exact ⟨0, Nat.zero_le _, rfl, by rw [h0]; exact World.ownsRow_nil _ _ _ _, HB1.out, Below.refl _ _⟩
    case round =>
      obtain ⟨k, hk, rfl, hown, hB, hBW⟩ := hrel
      obtain ⟨av, cv, rfl⟩ := own_slice hown
      have hzm := szK_le (excN s k)
      unfold szK at hzm
      have HOW := Lib.hid hown
      have HB := Lib.hid hB
      have HBW := Lib.hid hBW
      have HGG := Lib.hid (HG.out wr (HT.out.below hB (Nat.le_refl _)))
      clear hown hB hBW
      by_cases hlt : k < PN
      · have HSS := Lib.hid (HS8.out k hlt)
        have hk10 : k < 1024 := by omega
        have hzl := szK_le k
        unfold szK at hzl
        have HNN := Lib.hid (fun h => excN_no (s := s) (k := k) h)
        have HYY := Lib.hid (fun h => excN_yes (s := s) (k := k) h)
        have HRR := Lib.hid (HRN.out k hlt)
        have HBT := Lib.hid (keyE_bet k (excN s k))
        have HPZ := Lib.hid ((HOP.out k hk10).trans (excP_zero s k).symm)
        have HPA := Lib.hid (excP_all s k)
        have HPF := Lib.hid (fun r hr h => excP_false (s := s) (S := k) (r := r) hr h)
        have HPS := Lib.hid (fun r z (h : t[r]? = some z) => (excP_succ s k r).trans (by rw [HTS.out r z h, two_sum (HZ.out r z h)]))
        have HSE : ∀ x, szK x = (numsK x).length := fun _ => rfl
        rw [HSE, HSE] at HBT
        clear HSE
        have HONK := Lib.hid (rfl : numsK k = numsK k)
        go_wp2_with fail
        refine HGG.out.mono ?_
        rintro e w' ⟨rfl, rfl⟩
        go_wp2_with fail
        refine HGG.out.mono ?_
        rintro e w' ⟨rfl, rfl⟩
        go_wp2_with fail
        refine (HSS.out _).mono ?_
        rintro e w2 ⟨a2, c2, rfl, ho2, hB⟩
        have HB2 := Lib.hid (HB.out.trans (hB.mono HB.out.size))
        have HBW2 := Lib.hid (HBW.out.trans (hB.mono HBW.out.size))
        have HOW2 := Lib.hid (own_below HOW.out hB (Nat.le_refl _))
        have HRS := Lib.hid (own_mono ho2 HB.out.size)
        have HI2 := Lib.hid (ints_of_own ho2).1
        have HIO := Lib.hid (HI1.out.below HBW2.out (Nat.le_refl _))
        clear ho2 hB HSS HB HOW HBW HGG HONK
        generalize hRR : numsK k = R at *
        have HNK := Lib.hid hRR
        clear hRR
        obtain ⟨W0, hW0⟩ : ∃ W, W = w2 := ⟨_, rfl⟩
        subst hW0
        go_wp2_with fail
        go_loopw [9, 10] (fun s9 s10 wx => ∃ j : Nat, j ≤ R.length ∧ s10 = .int .i64 j ∧ s9 = .bool ((R.take j).all fun g => hasB OP g) ∧ W0 = wx) (fun _ s10 _ => R.length - (intOf s10).toNat)
        case atStart => exact ⟨0, Nat.zero_le _, rfl, by simp, rfl⟩
        case round =>
          obtain ⟨j, hj, rfl, rfl, rfl⟩ := hrel
          by_cases hjl : j < R.length
          · obtain ⟨b2, off2, x, rfl, hlb2, hx, hcx⟩ := HI2.out.at_ hjl
            have HHX := Lib.hid (HHS.out a1 c1 x W0 HIO.out (by omega))
            have HX := Lib.hid (all_takeB (p := fun g => hasB OP g) hx)
            clear hx
            generalize (R.take j).all (fun g => hasB OP g) = Q at *
            cases Q
            · go_wp2_with fail
              go_roundw
              case rel => exact ⟨j + 1, by omega, by go_num, by rw [HX.out]; rfl, trivial⟩
              case measure => simp [intOf]; omega
            · go_wp2_with fail
              refine HHX.out.mono ?_
              rintro e w' ⟨rfl, rfl⟩
              go_wp2_with fail
              go_roundw
              case rel => exact ⟨j + 1, by omega, by go_num, by rw [HX.out]; rfl, trivial⟩
              case measure => simp [intOf]; omega
          · obtain rfl : j = R.length := by omega
            rw [List.take_length, HPZ.out]
            go_wp2_with fail
            go_loopw [9, 11] (fun s9 s11 wx => ∃ r : Nat, r ≤ t.length ∧ s11 = .int .i64 r ∧ s9 = .bool (excP s k r) ∧ Below W0.heap.size W0 wx) (fun _ s11 _ => t.length - (intOf s11).toNat)
            case atStart => exact ⟨0, Nat.zero_le _, rfl, rfl, Below.refl _ _⟩
            case round =>
              obtain ⟨r, hr, rfl, rfl, hBx⟩ := hrel
              have HBX := Lib.hid hBx
              clear hBx
              obtain ⟨W2, hW2⟩ : ∃ W, W = wr := ⟨_, rfl⟩
              subst hW2
              have HPFR := Lib.hid (fun h => HPF.out r (by rw [HSL.out]; exact hr) h)
              by_cases hrl : r < t.length
              · cases hPr : excP s k r
                · have HE3 := Lib.hid (HNN.out (by rw [HPFR.out hPr]; rfl))
                  have HOW4 := Lib.hid (own_below HOW2.out HBX.out (Nat.le_refl _))
                  have HB4 := Lib.hid (HB2.out.trans (HBX.out.mono HB2.out.size))
                  have HBW4 := Lib.hid (HBW2.out.trans (HBX.out.mono HBW2.out.size))
                  clear hPr
                  go_wp2_with fail
                  go_roundw
                  case rel => exact ⟨k + 1, by omega, by go_num, by rw [HE3.out]; exact HOW4.out, HB4.out, HBW4.out⟩
                  case measure => simp [intOf]; omega
                · obtain ⟨z, hz⟩ := get_of_lt hrl
                  have HPS1 := Lib.hid (HPS.out r z hz)
                  rw [hPr] at HPS1
                  have HZZ := Lib.hid hz
                  have HZ1 := Lib.hid (HZ.out r z hz)
                  have HZ2 := Lib.hid (HZL.out r z hz)
                  clear hz hPr
                  go_wp2_with fail
                  go_loopw [12, 13] (fun s12 s13 wz => ∃ g : Nat, g ≤ R.length ∧ s13 = .int .i64 g ∧ s12 = .int .i64 (sumC z (R.take g) : Nat) ∧ Below W2.heap.size W2 wz) (fun _ s13 _ => R.length - (intOf s13).toNat)
                  case atStart => exact ⟨0, Nat.zero_le _, rfl, by simp [sumC], Below.refl _ _⟩
                  case round =>
                    obtain ⟨g, hg, rfl, rfl, hBz⟩ := hrel
                    have HBZ := Lib.hid hBz
                    have HBW5 := Lib.hid (HB2.out.trans ((HBX.out.trans (hBz.mono HBX.out.size)).mono HB2.out.size))
                    have HBW6 := Lib.hid (HBX.out.trans (hBz.mono HBX.out.size))
                    clear hBz
                    by_cases hgl : g < R.length
                    · obtain ⟨b3, off3, z3, a3, c3, rfl, hlb3, hz3, d3, hi3⟩ := (HT.out.below HBW5.out (Nat.le_refl _)).at_ hrl
                      rw [HZZ.out] at hz3
                      injection hz3 with hz3
                      subst hz3
                      obtain ⟨b4, off4, x, rfl, hlb4, hx, d4⟩ := (HI2.out.below HBW6.out (Nat.le_refl _)).at_ hgl
                      obtain ⟨x0, x1⟩ := HRR.out x (mem_of_get hx)
                      obtain ⟨q, rfl⟩ : ∃ q : Nat, x = (q : Int) := ⟨x.toNat, by omega⟩
                      obtain ⟨b5, off5, y, rfl, hlb5, hy, d5⟩ := hi3.at_ (show q < z.length by rw [HZ2.out]; omega)
                      have hs1 := sum_le1 HZ1.out (R.take g)
                      rw [List.length_take] at hs1
                      have hy01 : y = 0 ∨ y = 1 := by have := HZ1.out q; rwa [getD_of_get hy] at this
                      have hy2 : 0 ≤ y ∧ y ≤ 1 := by omega
                      obtain ⟨hy3, hy4⟩ := hy2
                      have HX := Lib.hid (show ((sumC z (R.take (g + 1)) : Nat) : Int) = ((sumC z (R.take g) : Nat) : Int) + y from by
                        rw [sumC_take hx, show ((q : Int)).toNat = q from rfl, getD_of_get hy]; omega)
                      have gy : (q : Int) < (z.length : Int) := by have := HZ2.out; omega
                      clear hi3 hx hy hy01
                      generalize sumC z (R.take g) = Q at *
                      go_wp2_with fail
                      go_quiet (fail)
                      go_wp2_with fail
                      go_roundw
                      case rel => exact ⟨g + 1, by omega, by go_num, by rw [HX.out], below_nq HBZ.out _⟩
                      case measure => simp [intOf]; omega
                    · obtain rfl : g = R.length := by omega
                      rw [List.take_length]
                      generalize sumC z R = Q at *
                      have HPE := Lib.hid (show excP s k (r + 1) = decide ((Q : Int) < 2) from by rw [HPS1.out, Bool.true_and, decide_eq_decide]; omega)
                      go_wp2_with fail
                      go_roundw
                      case rel => exact ⟨r + 1, by omega, by go_num, by rw [HPE.out], HBW6.out⟩
                      case measure => simp [intOf]; omega
              · obtain rfl : r = t.length := by omega
                have HOW4 := Lib.hid (own_below HOW2.out HBX.out (Nat.le_refl _))
                have HRS4 := Lib.hid (own_below HRS.out HBX.out (Nat.le_refl _))
                have HB4 := Lib.hid (HB2.out.trans (HBX.out.mono HB2.out.size))
                have HBW4 := Lib.hid (HBW2.out.trans (HBX.out.mono HBW2.out.size))
                have HPA1 := Lib.hid (show excP s k t.length = excB s k from by rw [← HSL.out]; exact HPA.out)
                rw [HPA1.out]
                cases hPr : excB s k
                · have HE3 := Lib.hid (HNN.out (by rw [hPr]; rfl))
                  clear hPr
                  go_wp2_with fail
                  go_roundw
                  case rel => exact ⟨k + 1, by omega, by go_num, by rw [HE3.out]; exact HOW4.out, HB4.out, HBW4.out⟩
                  case measure => simp [intOf]; omega
                · rw [hPr] at HNN HYY
                  generalize hMM : numsK (excN s k) = MM at *
                  have HMM := Lib.hid hMM
                  clear hMM hPr
                  generalize hBM : befB R MM = BB at *
                  have HBC := Lib.hid (fun w h1 h2 => show Calls Try.prog 87 #[.slice a2 R.length c2, .slice av MM.length cv] w fun e w' => e = .returned (.bool BB) ∧ Below w.heap.size w w' from by
                    rw [← hBM]; exact HBF.out a2 av c2 cv R MM w h1 h2 (by omega) (by omega))
                  have HI4 := Lib.hid (ints_of_own HOW4.out).1
                  have HI5 := Lib.hid (ints_of_own HRS4.out).1
                  clear hBM
                  rcases Nat.lt_trichotomy MM.length R.length with h | h | h
                  · have hd : decide ((MM.length : Int) < (R.length : Int)) = true := by simp; omega
                    have hd' : decide (MM.length < R.length) = true := decide_eq_true h
                    have HE3 := Lib.hid (HYY.out (by rw [HBT.out]; simp [h]))
                    go_wp2_with fail
                    go_roundw
                    case rel => exact ⟨k + 1, by omega, by go_num, by rw [HE3.out, HNK.out]; exact HRS4.out, HB4.out, HBW4.out⟩
                    case measure => simp [intOf]; omega
                  · have hd : decide ((MM.length : Int) < (R.length : Int)) = false := decide_eq_false (by omega)
                    have hd' : decide (MM.length < R.length) = false := decide_eq_false (by omega)
                    have hd2 : ((R.length : Int) == (MM.length : Int)) = true := by rw [beq_iff_eq]; omega
                    have hd3 : (R.length == MM.length) = true := by rw [beq_iff_eq]; omega
                    have HH := Lib.hid h
                    clear h
                    cases BB
                    · have HE3 := Lib.hid (HNN.out (by rw [HBT.out, hd', Bool.and_false]; rfl))
                      go_wp2_with fail
                      refine (HBC.out _ HI5.out HI4.out).mono ?_
                      rintro e w4 ⟨rfl, hB⟩
                      have HOW5 := Lib.hid (own_below HOW4.out hB (Nat.le_refl _))
                      have HB5 := Lib.hid (HB4.out.trans (hB.mono HB4.out.size))
                      have HBW5 := Lib.hid (HBW4.out.trans (hB.mono HBW4.out.size))
                      clear hB
                      go_wp2_with fail
                      go_roundw
                      case rel => exact ⟨k + 1, by omega, by go_num, by rw [HE3.out, HMM.out]; exact HOW5.out, HB5.out, HBW5.out⟩
                      case measure => simp [intOf]; omega
                    · have HE3 := Lib.hid (HYY.out (by rw [HBT.out, hd', hd3]; rfl))
                      go_wp2_with fail
                      refine (HBC.out _ HI5.out HI4.out).mono ?_
                      rintro e w4 ⟨rfl, hB⟩
                      have HRS5 := Lib.hid (own_below HRS4.out hB (Nat.le_refl _))
                      have HB5 := Lib.hid (HB4.out.trans (hB.mono HB4.out.size))
                      have HBW5 := Lib.hid (HBW4.out.trans (hB.mono HBW4.out.size))
                      clear hB
                      go_wp2_with fail
                      go_roundw
                      case rel => exact ⟨k + 1, by omega, by go_num, by rw [HE3.out, HNK.out]; exact HRS5.out, HB5.out, HBW5.out⟩
                      case measure => simp [intOf]; omega
                  · have hd : decide ((MM.length : Int) < (R.length : Int)) = false := decide_eq_false (by omega)
                    have hd' : decide (MM.length < R.length) = false := decide_eq_false (by omega)
                    have hd2 : ((R.length : Int) == (MM.length : Int)) = false := by rw [beq_eq_false_iff_ne]; omega
                    have hd3 : (R.length == MM.length) = false := by rw [beq_eq_false_iff_ne]; omega
                    have HE3 := Lib.hid (HNN.out (by rw [HBT.out, hd', hd3]; rfl))
                    clear h
                    go_wp2_with fail
                    go_roundw
                    case rel => exact ⟨k + 1, by omega, by go_num, by rw [HE3.out, HMM.out]; exact HOW4.out, HB4.out, HBW4.out⟩
                    case measure => simp [intOf]; omega
      · obtain rfl : k = PN := by omega
        go_wp2_with fail
        refine HGG.out.mono ?_
        rintro e w' ⟨rfl, rfl⟩
        go_wp2_with fail
        go_ret2
        exact ⟨_, _, rfl, HOW.out, HB.out⟩
  · rw [if_neg hv]
    have hne : (vsu t != 0) = true := by simpa using hv
    clear hv ht hm
    go_enter Try.func35, Try.ntmps35
    go_wp2_with fail
    refine HV.out.mono ?_
    rintro e w' ⟨rfl, hB⟩
    go_wp2_with fail
    go_ret2
    exact ⟨none, 0, rfl, World.ownsRow_nil _ _ _ _, hB⟩

end Go.Proofs.Ytmigkbimdjiigaa
