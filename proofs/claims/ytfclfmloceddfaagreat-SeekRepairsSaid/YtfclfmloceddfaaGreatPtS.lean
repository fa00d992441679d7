/- Several texts in one. -/
import Derived.Test.YtfclfmloceddfaaGreatPtW
import Derived.Test.YtfclfmloceddfaaGreatEdO
import Derived.Test.YtfclfmloceddfaaGreatRunA
import Derived.Sort.Grow
import Derived.Deep.Draws
import Derived.Shelf.SlSortCmp.Whole1
import Derived.Shelf.SlGeneric
import Derived.Test.YtfclfmloceddfaaGreatRowsL
/- The order of parts: cmp.Compare, cmp.Or, slices.Compare and the closure of parts: contracts. -/
set_option linter.unusedVariables false
set_option linter.unusedSimpArgs false
namespace Tinker
/-- What cmp.Compare answers. -/
def cmpP (a b : Int) : Int := if a < b then -1 else if b < a then 1 else 0
/-- What slices.Compare answers. -/
def cmL : List Int → List Int → Int
  | [], [] => 0
  | [], _ :: _ => -1
  | _ :: _, [] => 1
  | x :: a, y :: b => if cmpP x y = 0 then cmL a b else cmpP x y
theorem cmpP_lt {a b : Int} : cmpP a b < 0 ↔ a < b := by unfold cmpP; split <;> (try split) <;> omega
theorem cmpP_0 {a b : Int} : cmpP a b = 0 ↔ a = b := by unfold cmpP; split <;> (try split) <;> omega
theorem cmL_bef : ∀ (a b : List Int), decide (cmL a b < 0) = befB a b
  | [], [] => rfl
  | [], _ :: _ => rfl
  | _ :: _, [] => rfl
  | x :: a, y :: b => by
    rw [cmL, befB]
    by_cases h : x = y
    · rw [if_pos (cmpP_0.2 h), if_pos h]; exact cmL_bef a b
    · rw [if_neg (fun e => h (cmpP_0.1 e)), if_neg h]
      rw [Bool.eq_iff_iff]; simp [cmpP_lt]
/-- What the closure of parts answers. -/
def cfE (z y : List E) : Int := fe (cmpP z.length y.length) (cmL (pl z) (pl y))
theorem cfE_bef (z y : List E) : decide (cfE z y < 0) = befE z y := by
  unfold cfE befE fe
  by_cases h : (z.length : Int) = y.length
  · have hl : z.length = y.length := by omega
    rw [if_pos (cmpP_0.2 h), cmL_bef, hl]
    simp
  · have hl : z.length ≠ y.length := by omega
    rw [if_neg (fun e => h (cmpP_0.1 e))]
    rw [Bool.eq_iff_iff]
    simp [cmpP_lt, hl]
theorem cmL_step {xs ys : List Int} {k : Nat} {x y : Int} (hx : xs[k]? = some x) (hy : ys[k]? = some y) : cmL (xs.drop k) (ys.drop k) = if cmpP x y = 0 then cmL (xs.drop (k + 1)) (ys.drop (k + 1)) else cmpP x y := by
  have h1 : xs.drop k = x :: xs.drop (k + 1) := by
    obtain ⟨h, rfl⟩ := List.getElem?_eq_some_iff.1 hx
    exact List.drop_eq_getElem_cons h
  have h2 : ys.drop k = y :: ys.drop (k + 1) := by
    obtain ⟨h, rfl⟩ := List.getElem?_eq_some_iff.1 hy
    exact List.drop_eq_getElem_cons h
  rw [h1, h2, cmL]
end Tinker
namespace Go.Proofs.YtfclfmloceddfaaGreat
open Go.RowKit Tinker

theorem isNaNp_any (a : Int) (w : World) : Calls Tryz.prog 99 #[.int .i64 a] w fun e w' => e = .returned (.bool false) ∧ w = w' := by
  have h : (a != a) = false := by simp
  go_enter Tryz.func99, Tryz.ntmps99
  go_wp2
  go_ret
  exact ⟨rfl, rfl⟩
theorem cmpP_any (a b : Int) (w : World) : Calls Tryz.prog 73 #[.int .i64 a, .int .i64 b] w fun e w' => e = .returned (.int .i64 (cmpP a b)) ∧ w = w' := by
  unfold cmpP
  by_cases h1 : a < b
  · rw [if_pos h1]
    go_enter Tryz.func73, Tryz.ntmps73
    go_wp2_with ((go_at_call 99; refine (isNaNp_any _ _).mono ?_; rintro e wa ⟨rfl, rfl⟩))
    go_ret
    exact ⟨rfl, rfl⟩
  · by_cases h2 : b < a
    · rw [if_neg h1, if_pos h2]
      go_enter Tryz.func73, Tryz.ntmps73
      go_wp2_with ((go_at_call 99; refine (isNaNp_any _ _).mono ?_; rintro e wa ⟨rfl, rfl⟩))
      go_ret
      exact ⟨rfl, rfl⟩
    · rw [if_neg h1, if_neg h2]
      go_enter Tryz.func73, Tryz.ntmps73
      go_wp2_with ((go_at_call 99; refine (isNaNp_any _ _).mono ?_; rintro e wa ⟨rfl, rfl⟩))
      go_ret
      exact ⟨rfl, rfl⟩

set_option maxHeartbeats 400000 in
theorem cmpOr_any (a : Option Addr) (cap : Nat) (zs : List Int) (w : World) (hz : IntsAt w a zs) (hm : zs.length ≤ 100) :
    Calls Tryz.prog 72 #[.slice a zs.length cap] w fun e w' => e = .returned (.int .i64 (feL zs)) ∧ w = w' := by
  go_enter Tryz.func72, Tryz.ntmps72
  go_wp2_with fail
  go_loop [8] (fun i => ∃ k : Nat, k ≤ zs.length ∧ i = .int .i64 k ∧ (zs.take k).all (· == 0) = true) (fun i => zs.length - (intOf i).toNat)
  case atStart => exact ⟨0, Nat.zero_le _, rfl, by simp⟩
  case round =>
    obtain ⟨k, hk, rfl, hall⟩ := hrel
    have HA := Lib.hid hall
    clear hall
    by_cases hlt : k < zs.length
    · obtain ⟨b, off, n, rfl, hlb, hl, h0⟩ := hz.at_ hlt
      have HL := Lib.hid hl
      clear hz hl
      by_cases hv : n = 0
      · have HV := Lib.hid hv
        have hv2 : (n == 0) = true := by simpa using hv
        have hv3 : (n != 0) = false := by simpa using hv
        clear hv
        go_wp2
        go_round
        case rel => exact ⟨k + 1, by omega, by go_num, all_snoc HA.out HL.out hv2⟩
        case measure => simp [intOf]; omega
      · have HV := Lib.hid hv
        have hv2 : (n == 0) = false := by simpa using hv
        have hv3 : (n != 0) = true := by simpa using hv
        clear hv
        go_wp2
        go_ret
        exact ⟨ret_int (feL_at HA.out HL.out HV.out).symm, rfl⟩
    · go_wp2
      go_ret
      exact ⟨ret_int (feL_zero (all_whole HA.out hlt)).symm, rfl⟩

set_option maxHeartbeats 1000000 in
theorem compareInts_any (a b : Option Addr) (ca cb : Nat) (xs ys : List Int) (w : World) (hx : IntsAt w a xs) (hy : IntsAt w b ys) (hm : xs.length ≤ 100) (hn : ys.length ≤ 100) :
    Calls Tryz.prog 74 #[.slice a xs.length ca, .slice b ys.length cb] w fun e w' => e = .returned (.int .i64 (cmL xs ys)) ∧ w = w' := by
  go_enter Tryz.func74, Tryz.ntmps74
  go_wp2_with fail
  go_loop [11] (fun i => ∃ k : Nat, k ≤ xs.length ∧ k ≤ ys.length ∧ i = .int .i64 k ∧ cmL xs ys = cmL (xs.drop k) (ys.drop k)) (fun i => xs.length - (intOf i).toNat)
  case atStart => exact ⟨0, Nat.zero_le _, Nat.zero_le _, rfl, rfl⟩
  case round =>
    obtain ⟨k, hk, hk2, rfl, hcm⟩ := hrel
    by_cases hlt : k < xs.length
    · obtain ⟨b1, o1, x, rfl, hb1, hx1, h0⟩ := hx.at_ hlt
      by_cases hlt2 : k < ys.length
      · obtain ⟨b2, o2, y, rfl, hb2, hy1, h1⟩ := hy.at_ hlt2
        rw [cmL_step hx1 hy1] at hcm
        have HCM := Lib.hid hcm
        clear hcm hx hy hx1 hy1
        by_cases hc : cmpP x y = 0
        · have HC := Lib.hid hc
          have hc2 : (cmpP x y != 0) = false := by simpa using hc
          rw [if_pos HC.out] at HCM
          have HP := Lib.hid (fun w => cmpP_any x y w)
          clear hc
          generalize cmpP x y = c at HP hc2
          go_wp2_with fail
          refine (HP.out _).mono ?_
          rintro e w1 ⟨rfl, rfl⟩
          go_wp2_with fail
          go_round
          case rel => exact ⟨k + 1, by omega, by omega, by go_num, HCM.out⟩
          case measure => simp [intOf]; omega
        · have hc2 : (cmpP x y != 0) = true := by simpa using hc
          have HC := Lib.hid hc
          rw [if_neg HC.out] at HCM
          have HP := Lib.hid (fun w => cmpP_any x y w)
          clear hc HC
          generalize cmpP x y = c at HP hc2 HCM
          go_wp2_with fail
          refine (HP.out _).mono ?_
          rintro e w1 ⟨rfl, rfl⟩
          go_wp2_with fail
          go_ret
          exact ⟨ret_int HCM.out.symm, rfl⟩
      · obtain rfl : k = ys.length := by omega
        have HR := Lib.hid (show cmL xs ys = 1 by
          rw [hcm, List.drop_length]
          cases h : xs.drop ys.length with
          | nil => have := congrArg List.length h; rw [List.length_drop] at this; simp at this; omega
          | cons => rfl)
        clear hcm hx hy hx1
        go_wp2_with fail
        go_ret
        exact ⟨ret_int HR.out.symm, rfl⟩
    · have hk3 : k = xs.length := by omega
      subst hk3
      rw [List.drop_length] at hcm
      by_cases h2 : xs.length < ys.length
      · have HR := Lib.hid (show cmL xs ys = -1 by
          rw [hcm]
          cases h : ys.drop xs.length with
          | nil => have := congrArg List.length h; rw [List.length_drop] at this; simp at this; omega
          | cons => rfl)
        clear hcm hx hy
        go_wp2_with fail
        go_ret
        exact ⟨ret_int HR.out.symm, rfl⟩
      · have HR := Lib.hid (show cmL xs ys = 0 by
          rw [hcm, List.drop_eq_nil_of_le (by omega)]
          rfl)
        clear hcm hx hy
        go_wp2_with fail
        go_ret
        exact ⟨ret_int HR.out.symm, rfl⟩

/-- More draws, new blocks behind: so a world of the sort's. -/
theorem grown_of {w w' : World} (h : Below w.heap.size w w') (hd : w.drawn ≤ w'.drawn) : ∃ q os, w' = Go.Sort.grow (w.drewN q) os := by
  refine ⟨w'.drawn - w.drawn, w'.heap.extract w.heap.size w'.heap.size, ?_⟩
  have hh : w'.heap = w.heap ++ w'.heap.extract w.heap.size w'.heap.size := by
    have hs := h.size
    apply Array.ext_getElem?
    intro i
    by_cases hi : i < w.heap.size
    · rw [h.block i hi, Array.getElem?_append_left hi]
    · rw [Array.getElem?_append_right (by omega), Array.getElem?_extract]
      by_cases hi2 : i < w'.heap.size
      · rw [if_pos (by omega)]; congr 1; omega
      · rw [if_neg (by omega), Array.getElem?_eq_none (by omega)]
  obtain ⟨a1, a2, a3, a4, a5⟩ := w'
  obtain ⟨b1, b2, b3, b4, b5⟩ := w
  have h1 := h.os; have h2 := h.tape; have h3 := h.output
  simp only at h1 h2 h3 hh hd
  subst h1 h2 h3
  simp only [Go.Sort.grow, World.drewN]
  congr 1
  omega

set_option maxRecDepth 100000 in
set_option maxHeartbeats 2000000 in
theorem partsCmp_any (a b : Option Addr) (ca cb : Nat) (xs ys : List E) (w : World) (hx : EditsAt w a xs) (hy : EditsAt w b ys) (h4 : xs.length ≤ 4) (k4 : ys.length ≤ 4) :
    Calls Tryz.prog 71 #[.slice a xs.length ca, .slice b ys.length cb] w fun e w' => e = .returned (.int .i64 (cfE xs ys)) ∧ Below w.heap.size w w' ∧ w.drawn ≤ w'.drawn := by
  have HC := Lib.hid (fun w => cmpP_any (xs.length : Int) (ys.length : Int) w)
  have HX := Lib.hid (fun w hx => pPlaces_any a ca xs w hx h4)
  have HY := Lib.hid (fun w hy => pPlaces_any b cb ys w hy k4)
  have lx : (pl xs).length = xs.length := by unfold pl; rw [List.length_map]
  have ly : (pl ys).length = ys.length := by unfold pl; rw [List.length_map]
  have HM := Lib.hid (fun (c d : Option Addr) (w : World) hx hy => by have := compareInts_any c d xs.length ys.length (pl xs) (pl ys) w hx hy (by omega) (by omega); rw [lx, ly] at this; exact this)
  have HE := Lib.hid (show cfE xs ys = feL [cmpP xs.length ys.length, cmL (pl xs) (pl ys)] by unfold cfE; rw [feL_two])
  rw [HE.out]
  clear HE lx ly
  generalize cmpP (xs.length : Int) (ys.length : Int) = c at HC ⊢
  generalize pl xs = A at HX HM ⊢
  generalize pl ys = B at HY HM ⊢
  generalize cmL A B = d at HM ⊢
  go_enter Tryz.func71, Tryz.ntmps71
  go_wp2_with fail
  refine (HC.out _).mono ?_
  rintro e w1 ⟨rfl, rfl⟩
  go_wp2_with fail
  refine (HX.out _ hx).mono ?_
  rintro e w1 ⟨rfl, hR1, hd1⟩
  have H1 := Lib.hid hR1
  have D1 := Lib.hid hd1
  clear hR1 hd1
  go_wp2_with fail
  refine (HY.out _ (hy.below H1.out.below (Nat.le_refl _))).mono ?_
  rintro e w2 ⟨rfl, hR2, hd2⟩
  have I1 := Lib.hid (H1.out.ints.below hR2.below (Nat.le_refl _))
  have I2 := Lib.hid hR2.ints
  have HB := Lib.hid (H1.out.below.trans (hR2.below.mono H1.out.below.size))
  have D2 := Lib.hid (Nat.le_trans D1.out hd2)
  clear hR2 hd2 H1 D1
  go_wp2_with fail
  refine (HM.out _ _ _ I1.out I2.out).mono ?_
  rintro e w3 ⟨rfl, rfl⟩
  go_wp2_with fail
  refine (cmpOr_any _ 2 [c, d] _ (ints_two _ _ _ _) (by simp)).mono ?_
  rintro e w3 ⟨rfl, rfl⟩
  go_wp2_with fail
  go_ret
  exact ⟨rfl, HB.out.alloc HB.out.size _, D2.out⟩

end Go.Proofs.YtfclfmloceddfaaGreat

/- The sort of parts: where the shelf's contract of slices.SortFunc lies at this program. -/
set_option linter.unusedVariables false
set_option linter.unusedSimpArgs false
namespace Go.Proofs.YtfclfmloceddfaaGreat
open Go.Shelf
def sortParts_ren : Go.Shelf.Ren := ⟨fun | 6 => 70 | 15 => 98 | 14 => 97 | 28 => 130 | 29 => 131 | 20 => 122 | 21 => 123 | 22 => 124 | 23 => 125 | 24 => 126 | 25 => 127 | 26 => 128 | 27 => 129 | 46 => 140 | 47 => 141 | 48 => 142 | 49 => 143 | 50 => 144 | 57 => 157 | n => n, fun | 22 => 91 | 24 => 27 | 25 => 109 | 3 => 3 | 39 => 128 | 0 => 0 | 53 => 144 | 55 => 146 | 4 => 4 | 46 => 137 | 45 => 136 | 50 => 141 | 5 => 5 | 9 => 9 | 66 => 163 | 70 => 167 | 76 => 179 | 77 => 180 | n => n, fun | n => n⟩
theorem sortParts : Go.Proofs.SlLaysF.n6 Tryz.prog sortParts_ren := {
  mixed := by kernel_rfl
  f6 := ⟨Tryz.f70.name, by decide, Tryz.func70.trans (congrArg some (by kernel_rfl))⟩
  f14 := ⟨Tryz.f97.name, by decide, Tryz.func97.trans (congrArg some (by kernel_rfl))⟩
  f15 := Tryz.func98.trans (congrArg some (by kernel_rfl))
  f20 := ⟨Tryz.f122.name, by decide, Tryz.func122.trans (congrArg some (by kernel_rfl))⟩
  f21 := ⟨Tryz.f123.name, by decide, Tryz.func123.trans (congrArg some (by kernel_rfl))⟩
  f22 := ⟨Tryz.f124.name, by decide, Tryz.func124.trans (congrArg some (by kernel_rfl))⟩
  f23 := ⟨Tryz.f125.name, by decide, Tryz.func125.trans (congrArg some (by kernel_rfl))⟩
  f24 := ⟨Tryz.f126.name, by decide, Tryz.func126.trans (congrArg some (by kernel_rfl))⟩
  f25 := ⟨Tryz.f127.name, by decide, Tryz.func127.trans (congrArg some (by kernel_rfl))⟩
  f26 := ⟨Tryz.f128.name, by decide, Tryz.func128.trans (congrArg some (by kernel_rfl))⟩
  f27 := ⟨Tryz.f129.name, by decide, Tryz.func129.trans (congrArg some (by kernel_rfl))⟩
  f28 := Tryz.func130.trans (congrArg some (by kernel_rfl))
  f29 := Tryz.func131.trans (congrArg some (by kernel_rfl))
  f46 := ⟨Tryz.f140.name, by decide, Tryz.func140.trans (congrArg some (by kernel_rfl))⟩
  f47 := Tryz.func141.trans (congrArg some (by kernel_rfl))
  f48 := Tryz.func142.trans (congrArg some (by kernel_rfl))
  f49 := ⟨Tryz.f143.name, by decide, Tryz.func143.trans (congrArg some (by kernel_rfl))⟩
  f50 := ⟨Tryz.f144.name, by decide, Tryz.func144.trans (congrArg some (by kernel_rfl))⟩
  f57 := ⟨Tryz.f157.name, by decide, Tryz.func157.trans (congrArg some (by kernel_rfl))⟩
  t0 := Tryz.underlying0
  a0 := Tryz.isAgg0
  z0 := Tryz.sizeOf0
  v0 := Tryz.zeroValue0
  t3 := Tryz.underlying3
  a3 := Tryz.isAgg3
  z3 := Tryz.sizeOf3
  v3 := Tryz.zeroValue3
  t4 := Tryz.underlying4
  a4 := Tryz.isAgg4
  z4 := Tryz.sizeOf4
  v4 := Tryz.zeroValue4
  t5 := Tryz.underlying5
  a5 := Tryz.isAgg5
  z5 := Tryz.sizeOf5
  v5 := Tryz.zeroValue5
  t9 := Tryz.underlying9
  a9 := Tryz.isAgg9
  z9 := Tryz.sizeOf9
  v9 := Tryz.zeroValue9
  t22 := Tryz.underlying91
  a22 := Tryz.isAgg91
  z22 := Tryz.sizeOf91
  v22 := Tryz.zeroValue91
  a24 := Tryz.isAgg27
  z24 := Tryz.sizeOf27
  t25 := Tryz.underlying109
  a25 := Tryz.isAgg109
  z25 := Tryz.sizeOf109
  v25 := Tryz.zeroValue109
  t39 := Tryz.underlying128
  a39 := Tryz.isAgg128
  z39 := Tryz.sizeOf128
  v39 := Tryz.zeroValue128
  t45 := Tryz.underlying136
  a45 := Tryz.isAgg136
  z45 := Tryz.sizeOf136
  v45 := Tryz.zeroValue136
  t46 := Tryz.underlying137
  a46 := Tryz.isAgg137
  z46 := Tryz.sizeOf137
  v46 := Tryz.zeroValue137
  t50 := Tryz.underlying141
  a50 := Tryz.isAgg141
  z50 := Tryz.sizeOf141
  v50 := Tryz.zeroValue141
  t53 := Tryz.underlying144
  a53 := Tryz.isAgg144
  z53 := Tryz.sizeOf144
  v53 := Tryz.zeroValue144
  t55 := Tryz.underlying146
  a55 := Tryz.isAgg146
  z55 := Tryz.sizeOf146
  v55 := Tryz.zeroValue146
  t66 := Tryz.underlying163
  a66 := Tryz.isAgg163
  z66 := Tryz.sizeOf163
  v66 := Tryz.zeroValue163
  t70 := Tryz.underlying167
  a70 := Tryz.isAgg167
  z70 := Tryz.sizeOf167
  v70 := Tryz.zeroValue167
  t76 := Tryz.underlying179
  a76 := Tryz.isAgg179
  z76 := Tryz.sizeOf179
  v76 := Tryz.zeroValue179
  t77 := Tryz.underlying180
  a77 := Tryz.isAgg180
  z77 := Tryz.sizeOf180
  v77 := Tryz.zeroValue180 }

end Go.Proofs.YtfclfmloceddfaaGreat

/- Lists of lists of edits in memory. -/
set_option linter.unusedVariables false
set_option linter.unusedSimpArgs false
namespace Go.Proofs.YtfclfmloceddfaaGreat
open Go.RowKit Tinker

/-- A block holds these edits. -/
def BEdits (W : World) (b : Nat) (zs : List E) : Prop := b < W.heap.size ∧ ∀ j u, (ec zs)[j]? = some u → W.cell? ⟨b, j, none⟩ = some u
theorem BEdits.lt {W : World} {b : Nat} {zs : List E} (h : BEdits W b zs) : b < W.heap.size := h.1
theorem BEdits.same {W W' : World} {b : Nat} {zs : List E} (h : BEdits W b zs) (e : W'.heap[b]? = W.heap[b]?) : BEdits W' b zs := by
  refine ⟨?_, fun j u hu => (cell_heap e j).trans (h.2 j u hu)⟩
  rw [Array.getElem?_eq_getElem h.1] at e
  exact (Array.getElem?_eq_some_iff.1 e).1
theorem BEdits.at_ {W : World} {b : Nat} {zs : List E} (h : BEdits W b zs) : EditsAt W (some ⟨b, 0, none⟩) zs := by
  refine .inr ⟨b, 0, rfl, h.1, fun j e hj => ?_⟩
  obtain ⟨h0, h1, h2, h3, h4⟩ := ec_get hj
  rw [Nat.zero_add]
  exact ⟨h.2 _ _ h0, h.2 _ _ h1, h.2 _ _ h2, h.2 _ _ h3, h.2 _ _ h4⟩
theorem bedits_of_own {W : World} {base g n c : Nat} {e : TypeId} {zs : List E} (h : W.ownsRow base e 5 (.slice (some ⟨g, 0, none⟩) n c) n (ec zs)) : BEdits W g zs := ⟨own_lt h, fun j u hu => own_cell h hu⟩

/-- A slice's address leads to these lists. -/
def RowsEAt (w : World) (g : Option Addr) (fs : List (List E)) : Prop :=
  fs = [] ∨ ∃ b off, g = some ⟨b, off, none⟩ ∧ b < w.heap.size ∧ ∀ j zs, fs[j]? = some zs → ∃ a c, w.cell? ⟨b, off + j, none⟩ = some (.slice a zs.length c) ∧ EditsAt w a zs
theorem RowsEAt.below {w w' : World} {B : Nat} {g : Option Addr} {fs : List (List E)} (h : RowsEAt w g fs) (hb : Below B w w') (hB : w.heap.size ≤ B) : RowsEAt w' g fs := by
  rcases h with h | ⟨b, off, e, hlt, hc⟩
  · exact .inl h
  · refine .inr ⟨b, off, e, Nat.lt_of_lt_of_le hlt hb.size, fun j zs hj => ?_⟩
    obtain ⟨a, c, h0, h1⟩ := hc j zs hj
    exact ⟨a, c, (hb.cell (p := ⟨b, _, none⟩) (by show b < B; omega)).trans h0, h1.below hb hB⟩
theorem RowsEAt.at_ {w : World} {g : Option Addr} {fs : List (List E)} (h : RowsEAt w g fs) {k : Nat} (hk : k < fs.length) : ∃ b off zs a c, g = some ⟨b, off, none⟩ ∧ b < w.heap.size ∧ fs[k]? = some zs ∧ w.cell? ⟨b, off + k, none⟩ = some (.slice a zs.length c) ∧ EditsAt w a zs := by
  obtain ⟨b, off, e, hlb, hc⟩ := h.resolve_left (by rintro rfl; simp at hk)
  obtain ⟨zs, hz⟩ := get_of_lt hk
  obtain ⟨a, c, h0, h1⟩ := hc k zs hz
  exact ⟨b, off, zs, a, c, e, hlb, hz, h0, h1⟩

/-- A list in a block of the call's own, from base on, that is not block o. -/
def OwnE (W : World) (base : Nat) (o : Option Nat) (a : Option Addr) (zs : List E) : Prop := zs = [] ∨ ∃ b, a = some ⟨b, 0, none⟩ ∧ base ≤ b ∧ o ≠ some b ∧ BEdits W b zs
theorem OwnE.at_ {W : World} {base : Nat} {o : Option Nat} {a : Option Addr} {zs : List E} (h : OwnE W base o a zs) : EditsAt W a zs := by
  rcases h with h | ⟨b, rfl, _, _, hb⟩
  · exact .inl h
  · exact hb.at_
theorem OwnE.same {W W' : World} {base : Nat} {o : Option Nat} {a : Option Addr} {zs : List E} (h : OwnE W base o a zs) (e : ∀ b, b < W.heap.size → base ≤ b → o ≠ some b → W'.heap[b]? = W.heap[b]?) : OwnE W' base o a zs := by
  rcases h with h | ⟨b, h1, h2, h3, h4⟩
  · exact .inl h
  · exact .inr ⟨b, h1, h2, h3, h4.same (e b h4.lt h2 h3)⟩
theorem OwnE.low {W W' : World} {base : Nat} {o : Option Nat} {a : Option Addr} {zs : List E} (h : OwnE W base o a zs) (hb : Below W.heap.size W W') : OwnE W' base o a zs := h.same fun b hlt _ _ => hb.block b hlt
theorem OwnE.free {W : World} {base : Nat} {o : Option Nat} {a : Option Addr} {zs : List E} (h : OwnE W base o a zs) {o' : Option Nat} (ho : ∀ b, b < W.heap.size → o ≠ some b → o' ≠ some b) : OwnE W base o' a zs := by
  rcases h with h | ⟨b, h1, h2, h3, h4⟩
  · exact .inl h
  · exact .inr ⟨b, h1, h2, ho b h4.lt h3, h4⟩
theorem OwnE.wide {W : World} {base base' : Nat} {o : Option Nat} {a : Option Addr} {zs : List E} (h : OwnE W base o a zs) (hb : base' ≤ base) : OwnE W base' o a zs := by
  rcases h with h | ⟨b, h1, h2, h3, h4⟩
  · exact .inl h
  · exact .inr ⟨b, h1, by omega, h3, h4⟩
theorem ownE_of {W : World} {base : Nat} {e : TypeId} {a : Option Addr} {n c : Nat} {zs : List E} (h : W.ownsRow base e 5 (.slice a n c) n (ec zs)) : OwnE W base none a zs := by
  rcases Nat.eq_zero_or_pos n with h0 | h0
  · have := (edits_of_own h).2
    exact .inl (List.eq_nil_of_length_eq_zero (by omega))
  · obtain ⟨g, e'⟩ := own_form h h0
    subst e'
    exact .inr ⟨g, rfl, own_base' h, by simp, bedits_of_own h⟩

/-- The cells of lists. -/
def RowCE (W : World) (base : Nat) (o : Option Nat) (fs : List (List E)) (xs : List Value) : Prop :=
  ∀ (k : Nat) (zs : List E), fs[k]? = some zs → ∃ (a : Option Addr) (c : Nat), xs[k]? = some (Value.slice a zs.length c) ∧ OwnE W base o a zs
theorem RowCE.same {W W' : World} {base : Nat} {o : Option Nat} {fs : List (List E)} {xs : List Value} (h : RowCE W base o fs xs) (e : ∀ b, b < W.heap.size → base ≤ b → o ≠ some b → W'.heap[b]? = W.heap[b]?) : RowCE W' base o fs xs :=
  fun k zs hk => by
    obtain ⟨a, c, h1, h2⟩ := h k zs hk
    exact ⟨a, c, h1, h2.same e⟩
/-- An own list of own lists. -/
structure RowsIE (w : World) (v : Value) (fs : List (List E)) (xs : List Value) (W : World) : Prop where
  out : W.ownsRow w.heap.size 27 1 v fs.length xs
  st : RowCE W w.heap.size v.ownBlock fs xs
  below : Below w.heap.size w W
theorem RowsIE.low {w : World} {v : Value} {fs : List (List E)} {xs : List Value} {W W' : World} (h : RowsIE w v fs xs W) (hb : Below W.heap.size W W') : RowsIE w v fs xs W' :=
  ⟨own_below h.out hb (Nat.le_refl _), h.st.same fun b hlt _ _ => hb.block b hlt, h.below.trans (hb.mono h.below.size)⟩
theorem RowsIE.nil {w W : World} (hb : Below w.heap.size w W) : RowsIE w (.slice none 0 0) [] [] W := ⟨World.ownsRow_nil _ _ _ _, fun k zs hk => by simp at hk, hb⟩
theorem RowsIE.push {w : World} {v v' : Value} {fs : List (List E)} {xs : List Value} {W W3 : World} {a : Option Addr} {c : Nat} {zs : List E} (h : RowsIE w v fs xs W) (hz : OwnE W w.heap.size v.ownBlock a zs)
    (hown : W3.ownsRow w.heap.size 27 1 v' (fs.length + 1) (xs ++ [.slice a zs.length c])) (hgrow : W.grownBy W3 v.ownBlock) (hat : v'.ownBlock = v.ownBlock ∨ v'.ownBlock = some W.heap.size) :
    RowsIE w v' (fs ++ [zs]) (xs ++ [.slice a zs.length c]) W3 := by
  have hx : xs.length = fs.length := by simpa using h.out.1
  have hne' : ∀ q, q < W.heap.size → v.ownBlock ≠ some q → v'.ownBlock ≠ some q := fun q hq h1 h2 => by
    rcases hat with e | e
    · exact h1 (e.symm.trans h2)
    · rw [e] at h2; injection h2 with h2; omega
  have hsame : ∀ {a : Option Addr} {zs : List E}, OwnE W w.heap.size v.ownBlock a zs → OwnE W3 w.heap.size v'.ownBlock a zs := fun {a zs} h1 => by
    rcases h1 with h1 | ⟨b, h1, h2, h3, h4⟩
    · exact .inl h1
    · exact .inr ⟨b, h1, h2, hne' b h4.lt h3, h4.same (hgrow.block b h4.lt (fun e => h3 e.symm))⟩
  refine ⟨by simpa using hown, ?_, h.below.grown hgrow h.below.size (fun k hk => by have := (h.out.lt k hk).1; omega)⟩
  intro k t hk
  rcases Nat.lt_or_ge k fs.length with hlt | hge
  · rw [List.getElem?_append_left hlt] at hk
    obtain ⟨a', c', h1, h2⟩ := h.st k t hk
    exact ⟨a', c', by rw [List.getElem?_append_left (by omega)]; exact h1, hsame h2⟩
  · rw [List.getElem?_append_right hge] at hk
    have hk0 : k = fs.length := by
      have := (List.getElem?_eq_some_iff.1 hk).1
      simp at this; omega
    subst hk0
    simp at hk
    subst hk
    exact ⟨a, c, by rw [List.getElem?_append_right (by omega), hx]; simp, hsame hz⟩
theorem RowsIE.at_ {w : World} {a : Option Addr} {n c : Nat} {fs : List (List E)} {xs : List Value} {W : World} (h : RowsIE w (.slice a n c) fs xs W) : RowsEAt W a fs ∧ fs.length = n := by
  have hn : xs.length = n := by
    rcases h.out.2 with ⟨he, hx⟩ | ⟨g, cap, cur, he, _⟩
    · injection he with _ h1 _
      have := h.out.1
      simp at this
      omega
    · injection he with _ h1 _
      have := h.out.1
      simp at this
      omega
  have hl : xs.length = fs.length := by simpa using h.out.1
  refine ⟨?_, by omega⟩
  rcases Nat.eq_zero_or_pos fs.length with h0 | h0
  · exact .inl (List.eq_nil_of_length_eq_zero h0)
  · obtain rfl : fs.length = n := by omega
    obtain ⟨g, hg⟩ := own_form h.out h0
    subst hg
    refine .inr ⟨g, 0, rfl, own_lt h.out, fun j zs hj => ?_⟩
    obtain ⟨a', c', h1, h2⟩ := h.st j zs hj
    exact ⟨a', c', by rw [Nat.zero_add]; exact own_cell h.out h1, h2.at_⟩

/-- Lists in memory, and a code. -/
def GivesRowsEdE (fs : List (List E)) (c : Int) (w : World) (e : Ending) (w' : World) : Prop :=
  ∃ a cap, e = .returned (.tuple #[.slice a fs.length cap, .int .i64 c]) ∧ RowsEAt w' a fs ∧ Below w.heap.size w w'
def GivesRowsEd (fs : List (List E)) (w : World) (e : Ending) (w' : World) : Prop :=
  ∃ a cap, e = .returned (.slice a fs.length cap) ∧ RowsEAt w' a fs ∧ Below w.heap.size w w'
theorem givesRowsEdE_nil {c : Int} {w w' : World} (hB : Below w.heap.size w w') : GivesRowsEdE [] c w (.returned (.tuple #[.slice none 0 0, .int .i64 c])) w' := ⟨none, 0, rfl, .inl rfl, hB⟩
theorem RowsIE.gives {w : World} {v : Value} {fs : List (List E)} {xs : List Value} {W : World} (h : RowsIE w v fs xs W) : GivesRowsEd fs w (.returned v) W := by
  obtain ⟨a, c, rfl⟩ := own_slice h.out
  exact ⟨a, c, rfl, h.at_.1, h.below⟩

theorem info_edits : (Tryz.prog.info? 27).map (fun i => (i.zero, i.size, i.bytes)) = some (some (.slice none 0 0), 1, 24) := by kernel_rfl

end Go.Proofs.YtfclfmloceddfaaGreat

/- The sort of parts: contract. -/
set_option linter.unusedVariables false
set_option linter.unusedSimpArgs false
namespace Tinker
theorem befB_neg {x y z : List Int} (h : befB x z = true) : befB x y = true ∨ befB y z = true := by
  by_cases e : x = y
  · subst e; exact .inr h
  · rcases befB_total e with h1 | h1
    · exact .inl h1
    · exact .inr (befB_trans h1 h)
theorem pl_len (z : List E) : (pl z).length = z.length := by unfold pl; rw [List.length_map]
theorem befE_congr {x y z : List E} (h : pl x = pl y) : befE x z = befE y z := by
  have hl : x.length = y.length := by rw [← pl_len x, ← pl_len y, h]
  unfold befE
  rw [h, hl]
theorem befE_neg {x y z : List E} (h : befE x z = true) : befE x y = true ∨ befE y z = true := by
  cases h1 : befE x y
  · right
    cases h2 : befE y x
    · rw [← befE_congr (befE_none h1 h2)]; exact h
    · exact befE_trans h2 h
  · exact .inl rfl
end Tinker
namespace Go.Proofs.YtfclfmloceddfaaGreat
open Go.RowKit Go.Sort Go.Shelf Tinker

/-- A part in memory, apart from the block g. -/
abbrev PA (W : World) (g : Nat) : Type := { x : Option Addr × Nat × List E // EditsAt W x.1 x.2.2 ∧ x.2.2.length ≤ 4 ∧ ∀ b o, x.1 = some ⟨b, o, none⟩ → x.2.2 = [] ∨ b ≠ g }
instance (W : World) (g : Nat) : Inhabited (PA W g) := ⟨⟨(none, 0, []), .inl rfl, by simp, by simp⟩⟩
def paV {W : World} {g : Nat} (x : PA W g) : Value := .slice x.1.1 x.1.2.2.length x.1.2.1
def paC {W : World} {g : Nat} (x y : PA W g) : Int := cfE x.1.2.2 y.1.2.2
theorem paC_lt {W : World} {g : Nat} (x y : PA W g) : ltOf paC x y = befE x.1.2.2 y.1.2.2 := by unfold ltOf paC; exact cfE_bef _ _
theorem paC_swo {W : World} {g : Nat} : SWO (ltOf (paC (W := W) (g := g))) where
  irrefl x := by rw [paC_lt]; exact befE_irr _
  trans x y z h1 h2 := by rw [paC_lt] at *; exact befE_trans h1 h2
  ntrans x y z h1 h2 := by
    rw [paC_lt] at *
    cases h : befE x.1.2.2 z.1.2.2
    · rfl
    · rcases befE_neg (y := y.1.2.2) h with h3 | h3
      · rw [h1] at h3; cases h3
      · rw [h2] at h3; cases h3

theorem block_sort {α : Type} [Inhabited α] (enc : α → Value) (W : World) (g m : Nat) (dk : Array α) (os : Array Obj) {b : Nat} (hb : b < W.heap.size) (hne : b ≠ g) : (sortWorld enc W g 0 m dk os).heap[b]? = W.heap[b]? := by
  show ((W.heap.modify g _) ++ os)[b]? = _
  rw [Array.getElem?_append_left (by simpa using hb), Array.getElem?_modify, if_neg (fun e => hne e.symm)]
theorem size_sort {α : Type} [Inhabited α] (enc : α → Value) (W : World) (g m : Nat) (dk : Array α) (os : Array Obj) : W.heap.size ≤ (sortWorld enc W g 0 m dk os).heap.size := by
  show _ ≤ ((W.heap.modify g _) ++ os).size
  simp
theorem edits_sort {α : Type} [Inhabited α] (enc : α → Value) {W : World} {g : Nat} (m : Nat) (dk : Array α) (os : Array Obj) {a : Option Addr} {xs : List E} (h : EditsAt W a xs) (hne : ∀ b o, a = some ⟨b, o, none⟩ → xs = [] ∨ b ≠ g) : EditsAt (sortWorld enc W g 0 m dk os) a xs := by
  rcases h with h | ⟨b, off, rfl, hlt, hc⟩
  · exact .inl h
  · rcases hne b off rfl with h0 | hne
    · exact .inl h0
    have hh := block_sort enc W g m dk os hlt hne
    refine .inr ⟨b, off, rfl, Nat.lt_of_lt_of_le hlt (size_sort enc W g m dk os), fun j e hj => ?_⟩
    obtain ⟨h0, h1, h2, h3, h4⟩ := hc j e hj
    exact ⟨(cell_heap hh _).trans h0, (cell_heap hh _).trans h1, (cell_heap hh _).trans h2, (cell_heap hh _).trans h3, (cell_heap hh _).trans h4⟩
theorem cmpLays_parts (W : World) (g n : Nat) : CmpLays1 Tryz.prog 71 #[] (paV (W := W) (g := g)) paC g 0 n W := by
  intro m os dk hs x y
  exact (partsCmp_any x.1.1 y.1.1 x.1.2.1 y.1.2.1 x.1.2.2 y.1.2.2 _ (edits_sort paV m dk os x.2.1 x.2.2.2) (edits_sort paV m dk os y.2.1 y.2.2.2) x.2.2.1 y.2.2.1).mono fun e w' ⟨he, hB, hd⟩ => ⟨he, grown_of hB hd⟩

theorem sortParts_any (w W : World) (g c n : Nat) (fs : List (List E)) (xs : List Value) (hn : fs.length = n) (h : RowsIE w (.slice (some ⟨g, 0, none⟩) n c) fs xs W) (hl : ∀ z ∈ fs, z.length ≤ 4) (hm : n ≤ 1000) :
    Calls Tryz.prog 70 #[.slice (some ⟨g, 0, none⟩) n c, .func (.func 71) #[] #[]] W fun e w' =>
      e = .returned (.tuple #[]) ∧ ∃ sp : List (List E), sp.Perm fs ∧ (sp.Pairwise fun a b => befE b a = false) ∧ RowsEAt w' (some ⟨g, 0, none⟩) sp ∧ Below w.heap.size w w' := by
  have hown := h.out
  rw [hn] at hown
  have hxl : xs.length = n := by have := hown.1; simpa using this
  have hgl := own_lt hown
  have hgb := own_base' hown
  have each : ∀ j, j < n → ∃ x : PA W g, xs[j]? = some (paV x) ∧ fs[j]? = some x.1.2.2 := by
    intro j hj
    obtain ⟨zs, hz⟩ := get_of_lt (show j < fs.length by omega)
    obtain ⟨a, c', h1, h2⟩ := h.st j zs hz
    refine ⟨⟨(a, c', zs), h2.at_, hl zs (mem_of_get hz), ?_⟩, h1, hz⟩
    intro b o e
    rcases h2 with h2 | ⟨b', e', _, h3, _⟩
    · exact .inl h2
    · right
      subst e'
      injection e with e
      injection e with e1 e2
      subst e1
      intro e4
      exact h3 (by show (Value.slice (some ⟨g, 0, none⟩) n c).ownBlock = _; rw [e4]; rfl)
  have each' : ∀ j, ∃ x : PA W g, j < n → xs[j]? = some (paV x) ∧ fs[j]? = some x.1.2.2 := fun j => by
    by_cases hj : j < n
    · obtain ⟨x, hx⟩ := each j hj; exact ⟨x, fun _ => hx⟩
    · exact ⟨default, fun e => absurd e hj⟩
  obtain ⟨F, hF⟩ := Classical.axiomOfChoice each'
  have hds : (((List.range n).map F).toArray).size = n := by simp
  have hdj : ∀ j, j < n → (((List.range n).map F).toArray)[j]! = F j := fun j hj => by
    rw [getElem!_pos _ j (by rw [hds]; exact hj)]
    simp
  have hdl : ((((List.range n).map F).toArray).toList.map fun x => x.1.2.2) = fs := by
    apply List.ext_getElem?
    intro j
    by_cases hj : j < n
    · rw [(hF j hj).2]
      simp [List.getElem?_map, List.getElem?_range hj]
    · rw [List.getElem?_eq_none (by simp; omega), List.getElem?_eq_none (by omega)]
  have hH : Holds paV W g 0 (((List.range n).map F).toArray) := by
    intro j hj
    rw [hds] at hj
    rw [hdj j hj, Nat.zero_add]
    exact ⟨own_cell hown (hF j hj).1, own_free hown j⟩
  generalize ((List.range n).map F).toArray = d at hds hdl hH
  have hcon := Any.slices_SortFunc sortParts (paV (W := W) (g := g)) (fun _ => rfl) paC paC_swo 71 #[] g 0 c d W (enters_of Tryz.func71 (by kernel_rfl) rfl) (cmpLays_parts W g d.size) hH hgl (by omega)
  rw [hds] at hcon
  refine hcon.mono ?_
  rintro e w' ⟨rfl, d', q, os, hp, hs, rfl⟩
  have hp0 := hp
  have hs0 := hs
  obtain ⟨hp1, _, hp3⟩ := hp0
  have hd's : d'.size = n := by rw [hp1, hds]
  have hperm : d'.toList.Perm d.toList := by
    have e1 : d'.extract 0 n = d' := by rw [← hd's]; exact Array.extract_size
    have e2 : d.extract 0 n = d := by rw [← hds]; exact Array.extract_size
    rw [e1, e2] at hp3
    exact hp3
  refine ⟨rfl, d'.toList.map (fun x => x.1.2.2), by rw [← hdl]; exact hperm.map _, ?_, ?_, ?_⟩
  · rw [List.pairwise_map, List.pairwise_iff_getElem]
    intro i j hi hj hij
    have hi' : i < d'.size := by simpa using hi
    have hj' : j < d'.size := by simpa using hj
    have := hs i j (Nat.zero_le _) hij (by omega)
    rw [paC_lt, getElem!_pos _ i hi', getElem!_pos _ j hj'] at this
    simpa using this
  · have hHd := holds_putRow paV (Sort.ahead W q) g 0 d d' (fun j hj => hH j hj) (by omega)
    refine .inr ⟨g, 0, rfl, Nat.lt_of_lt_of_le hgl (size_sort paV W g q d' os), fun j zs hj => ?_⟩
    rw [List.getElem?_map, Option.map_eq_some_iff] at hj
    obtain ⟨x, hx, rfl⟩ := hj
    have hj2 : j < d'.size := by have := (List.getElem?_eq_some_iff.1 hx).1; simpa using this
    have hx2 : d'[j]! = x := by
      rw [getElem!_pos _ j hj2]
      obtain ⟨h1, h2⟩ := List.getElem?_eq_some_iff.1 hx
      simpa using h2
    refine ⟨x.1.1, x.1.2.1, ?_, edits_sort paV q d' os x.2.1 x.2.2.2⟩
    have h0 := (hHd j hj2).1
    rw [hx2] at h0
    have e : (sortWorld paV W g 0 q d' os).cell? ⟨g, 0 + j, none⟩ = (putRow paV (Sort.ahead W q) g 0 d').cell? ⟨g, 0 + j, none⟩ := by
      refine cell_heap ?_ _
      show ((W.heap.modify g _) ++ os)[g]? = (W.heap.modify g _)[g]?
      rw [Array.getElem?_append_left (by simpa using hgl)]
    exact e.trans h0
  · exact ⟨h.below.os, h.below.tape, h.below.output, Nat.le_trans h.below.size (size_sort paV W g q d' os), fun k hk => (block_sort paV W g q d' os (Nat.lt_of_lt_of_le hk h.below.size) (by omega)).trans (h.below.block k hk)⟩

end Go.Proofs.YtfclfmloceddfaaGreat
