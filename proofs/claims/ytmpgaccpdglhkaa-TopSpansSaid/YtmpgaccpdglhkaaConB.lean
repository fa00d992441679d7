/- Several texts in one. -/
import Derived.Test.YtmpgaccpdglhkaaRefC
import Derived.Test.YtmpgaccpdglhkaaHas
/- Contracts: what is valid, how large a box is; contracts of package check. -/
set_option linter.unusedVariables false
set_option linter.unusedSimpArgs false
namespace Go.Proofs.Ytmpgaccpdglhkaa
open Go.RowKit Tinker

def leTo (lo hi : List Int) (k : Nat) : Bool := (List.range k).all fun i => decide (lo.getD i 0 ≤ hi.getD i 0)
def prd (lo hi : List Int) : Nat → Int
  | 0 => 1
  | k + 1 => prd lo hi k * (hi.getD k 0 - lo.getD k 0 + 1)
def numC (out mn mx : Int) : Bool := isReg out && (btw mn (-999) 999 && (btw mx (-999) 999 && decide (mn ≤ mx)))
def isCon (lo hi : List Int) (out mn mx : Int) : Bool := decide (vs lo = 0) && (decide (vs hi = 0) && (leTo lo hi 4 && numC out mn mx))
def vcon (lo hi : List Int) (out mn mx : Int) : Int := if isCon lo hi out mn mx then (if 400 < prd lo hi 4 then 3 else 0) else 1
def boxN (lo hi : List Int) (out mn mx : Int) : Int := if vcon lo hi out mn mx = 0 then prd lo hi 4 else 0
theorem leTo_succ {lo hi : List Int} {k : Nat} : leTo lo hi (k + 1) = (leTo lo hi k && decide (lo.getD k 0 ≤ hi.getD k 0)) := by
  unfold leTo; rw [List.range_succ, List.all_append]; simp
theorem leTo_le {lo hi : List Int} {k m : Nat} (h : leTo lo hi m = true) (hk : k < m) : lo.getD k 0 ≤ hi.getD k 0 := by
  have := List.all_eq_true.1 h k (List.mem_range.2 hk)
  simpa using this
theorem isCon_1 {lo hi : List Int} {out mn mx : Int} (h : vs lo ≠ 0) : isCon lo hi out mn mx = false := by unfold isCon; simp [h]
theorem isCon_2 {lo hi : List Int} {out mn mx : Int} (h : vs hi ≠ 0) : isCon lo hi out mn mx = false := by unfold isCon; simp [h]
theorem isCon_3 {lo hi : List Int} {out mn mx : Int} (h : leTo lo hi 4 = false) : isCon lo hi out mn mx = false := by unfold isCon; simp [h]
theorem leTo_not {lo hi : List Int} {k m : Nat} (hk : k < m) (h : ¬ lo.getD k 0 ≤ hi.getD k 0) : leTo lo hi m = false := by
  cases hc : leTo lo hi m
  · rfl
  · exact absurd (leTo_le hc hk) h
theorem isCon_4 {lo hi : List Int} {out mn mx : Int} (h1 : vs lo = 0) (h2 : vs hi = 0) (h3 : leTo lo hi 4 = true) : isCon lo hi out mn mx = numC out mn mx := by unfold isCon; simp [h1, h2, h3]
theorem isCon_ok {lo hi : List Int} {out mn mx : Int} (h : isCon lo hi out mn mx = true) : vs lo = 0 ∧ vs hi = 0 ∧ leTo lo hi 4 = true ∧ isReg out = true ∧ btw mn (-999) 999 = true ∧ btw mx (-999) 999 = true ∧ mn ≤ mx := by
  unfold isCon numC at h
  simp only [Bool.and_eq_true, decide_eq_true_eq] at h
  obtain ⟨a, b, c, d, e, f, g⟩ := h
  exact ⟨a, b, c, d, e, f, g⟩
theorem getD_vs {s : List Int} (h : vs s = 0) {k : Nat} (hk : k < 4) : -999 ≤ s.getD k 0 ∧ s.getD k 0 ≤ 999 := by
  obtain ⟨h4, hb⟩ := vs_ok h
  obtain ⟨x, hx⟩ := get_of_lt (show k < s.length by omega)
  rw [getD_of_get hx]
  exact hb x (mem_of_get hx)
/-- Each factor is from 1 to 1999. -/
theorem fac {lo hi : List Int} (h1 : vs lo = 0) (h2 : vs hi = 0) (h3 : leTo lo hi 4 = true) {k : Nat} (hk : k < 4) : 1 ≤ hi.getD k 0 - lo.getD k 0 + 1 ∧ hi.getD k 0 - lo.getD k 0 + 1 ≤ 1999 := by
  have := leTo_le h3 hk
  have := getD_vs h1 hk
  have := getD_vs h2 hk
  omega
theorem mul_le' {a b m n : Int} (h1 : 1 ≤ a) (h2 : a ≤ m) (h3 : 1 ≤ b) (h4 : b ≤ n) : 1 ≤ a * b ∧ a * b ≤ m * n := by
  have h := Int.mul_le_mul h2 h4 (by omega) (by omega)
  have h' := Int.mul_le_mul h1 h3 (by omega) (by omega)
  exact ⟨by simpa using h', h⟩
theorem prd_le {lo hi : List Int} (h1 : vs lo = 0) (h2 : vs hi = 0) (h3 : leTo lo hi 4 = true) : ∀ k, k ≤ 4 → 1 ≤ prd lo hi k ∧ prd lo hi k ≤ 1999 ^ k
  | 0, _ => by simp [prd]
  | k + 1, hk => by
    have ih := prd_le h1 h2 h3 k (by omega)
    have f := fac h1 h2 h3 (show k < 4 by omega)
    have := mul_le' ih.1 ih.2 f.1 f.2
    rw [prd, Int.pow_succ]
    exact this

/-- The boxed contract. -/
structure BoxC (x : Nat) (a b : Option Addr) (n m ca cb : Nat) (out mn mx : Int) (w W : World) : Prop where
  bl : W.heap[x]? = some (.cells #[.slice a n ca, .slice b m cb, .int .i64 out, .int .i64 mn, .int .i64 mx] 40 (0, 0))
  below : Below w.heap.size w W
section
variable {x : Nat} {a b : Option Addr} {n m ca cb : Nat} {out mn mx : Int} {w W W' : World}
theorem BoxC.low (h : BoxC x a b n m ca cb out mn mx w W) (hb : Below W.heap.size W W') : BoxC x a b n m ca cb out mn mx w W' := ⟨hp_below h.bl hb (hp_lt h.bl), h.below.trans (hb.mono h.below.size)⟩
theorem BoxC.drew (h : BoxC x a b n m ca cb out mn mx w W) : BoxC x a b n m ca cb out mn mx w W.drew := ⟨hp_drew h.bl, h.below.drew⟩
theorem BoxC.drewN (h : BoxC x a b n m ca cb out mn mx w W) (q : Nat) : BoxC x a b n m ca cb out mn mx w (W.drewN q) := ⟨h.bl, h.below.trans ⟨rfl, rfl, rfl, Nat.le_refl _, fun _ _ => rfl⟩⟩
theorem BoxC.c0 (h : BoxC x a b n m ca cb out mn mx w W) : W.cell? ⟨x, 0, none⟩ = some (.slice a n ca) := hp_cell h.bl (by rfl)
theorem BoxC.c1 (h : BoxC x a b n m ca cb out mn mx w W) : W.cell? ⟨x, 1, none⟩ = some (.slice b m cb) := hp_cell h.bl (by rfl)
theorem BoxC.c2 (h : BoxC x a b n m ca cb out mn mx w W) : W.cell? ⟨x, 2, none⟩ = some (.int .i64 out) := hp_cell h.bl (by rfl)
theorem BoxC.c3 (h : BoxC x a b n m ca cb out mn mx w W) : W.cell? ⟨x, 3, none⟩ = some (.int .i64 mn) := hp_cell h.bl (by rfl)
theorem BoxC.c4 (h : BoxC x a b n m ca cb out mn mx w W) : W.cell? ⟨x, 4, none⟩ = some (.int .i64 mx) := hp_cell h.bl (by rfl)
theorem boxC_new (w : World) : BoxC w.heap.size a b n m ca cb out mn mx w (w.alloc (.cells #[.slice a n ca, .slice b m cb, .int .i64 out, .int .i64 mn, .int .i64 mx] 40)) := ⟨hp_new rfl, (Below.refl _ _).alloc (Nat.le_refl _) _⟩
end

set_option maxHeartbeats 400000 in
theorem isValue_any (n : Int) (w : World) : Calls Try.prog 109 #[.int .i64 n] w fun e w' => e = .returned (.bool (btw n (-999) 999)) ∧ w = w' := by
  go_enter Try.func109, Try.ntmps109
  go_wp2_with fail
  refine (isBetween_any _ _ _ _).mono ?_
  rintro e w' ⟨rfl, rfl⟩
  go_wp2_with fail
  go_ret
  exact ⟨rfl, rfl⟩

set_option maxRecDepth 100000 in
set_option maxHeartbeats 1000000 in
theorem size_any (a b : Option Addr) (ca cb : Nat) (lo hi : List Int) (out mn mx : Int) (w : World) (hl : IntsAt w a lo) (hh : IntsAt w b hi) (h1 : vs lo = 0) (h2 : vs hi = 0) (h3 : leTo lo hi 4 = true) :
    Calls Try.prog 104 #[.agg #[.slice a lo.length ca, .slice b hi.length cb, .int .i64 out, .int .i64 mn, .int .i64 mx]] w fun e w' => e = .returned (.int .i64 (prd lo hi 4)) ∧ Below w.heap.size w w' := by
  have HP := Lib.hid (prd_le h1 h2 h3)
  have HF := Lib.hid (fun k => fac h1 h2 h3 (k := k))
  have HG1 := Lib.hid (fun k => getD_vs h1 (k := k))
  have HG2 := Lib.hid (fun k => getD_vs h2 (k := k))
  have E1 := Lib.hid (vs_ok h1).1
  have E2 := Lib.hid (vs_ok h2).1
  rw [E1.out, E2.out]
  clear h1 h2 h3
  have HI := Lib.hid (boxC_new (a := a) (b := b) (n := 4) (m := 4) (ca := ca) (cb := cb) (out := out) (mn := mn) (mx := mx) w)
  have hl' := hl.below HI.out.below (Nat.le_refl _)
  have hh' := hh.below HI.out.below (Nat.le_refl _)
  have x0 := HI.out.c0
  have x1 := HI.out.c1
  go_enter Try.func104, Try.ntmps104
  go_wp2_with fail
  go_loop [9, 3] (fun s9 s3 => ∃ k : Nat, k ≤ 4 ∧ s9 = .int .i64 k ∧ s3 = .int .i64 (prd lo hi k)) (fun s9 _ => 4 - (intOf s9).toNat)
  case atStart => exact ⟨0, Nat.zero_le _, rfl, rfl⟩
  case round =>
    obtain ⟨k, hk, rfl, rfl⟩ := hrel
    by_cases hlt : k < 4
    · obtain ⟨lb, lf, x, rfl, hlb, hx, cx⟩ := hl'.at_ (show k < lo.length by rw [E1.out]; exact hlt)
      obtain ⟨hb, hf, y, rfl, hhb, hy, cy⟩ := hh'.at_ (show k < hi.length by rw [E2.out]; exact hlt)
      have f := HF.out k hlt
      have p := HP.out k (by omega)
      have p2 := HP.out (k + 1) (by omega)
      have q1 := HG1.out k hlt
      have q2 := HG2.out k hlt
      rw [prd] at p2
      have HS := Lib.hid (show prd lo hi (k + 1) = prd lo hi k * (y - x + 1) by rw [prd, getD_of_get hx, getD_of_get hy])
      rw [getD_of_get hx] at f q1 p2
      rw [getD_of_get hy] at f q2 p2
      have pb : prd lo hi k ≤ 15968023992001 := by
        have : (1999 : Int) ^ k ≤ 1999 ^ 4 := by
          match k, hlt with
          | 0, _ => decide
          | 1, _ => decide
          | 2, _ => decide
          | 3, _ => decide
        have h4 : (1999 : Int) ^ 4 = 15968023992001 := by decide
        omega
      have pb2 : prd lo hi k * (y - x + 1) ≤ 15968023992001 := by
        have : (1999 : Int) ^ (k + 1) ≤ 1999 ^ 4 := by
          match k, hlt with
          | 0, _ => decide
          | 1, _ => decide
          | 2, _ => decide
          | 3, _ => decide
        have h4 : (1999 : Int) ^ 4 = 15968023992001 := by decide
        omega
      have pb1 := p2.1
      clear p p2 hx hy
      go_wp2_with fail
      go_round
      case rel => exact ⟨k + 1, by omega, by go_num, by rw [HS.out]⟩
      case measure => simp [intOf]; omega
    · have : k = 4 := by omega
      subst this
      go_wp2_with fail
      go_ret
      exact ⟨rfl, HI.out.below⟩

set_option maxRecDepth 100000 in
set_option maxHeartbeats 2000000 in
theorem isContract_any (a b : Option Addr) (ca cb : Nat) (lo hi : List Int) (out mn mx : Int) (w : World) (hl : IntsAt w a lo) (hh : IntsAt w b hi) (hm : lo.length ≤ 1000) (hm2 : hi.length ≤ 1000) :
    Calls Try.prog 103 #[.agg #[.slice a lo.length ca, .slice b hi.length cb, .int .i64 out, .int .i64 mn, .int .i64 mx]] w fun e w' => e = .returned (.bool (isCon lo hi out mn mx)) ∧ Below w.heap.size w w' := by
  have HI := Lib.hid (boxC_new (a := a) (b := b) (n := lo.length) (m := hi.length) (ca := ca) (cb := cb) (out := out) (mn := mn) (mx := mx) w)
  have HV1 := Lib.hid (fun w h => validateState_any a ca lo w h (by omega))
  have HV2 := Lib.hid (fun w h => validateState_any b cb hi w h (by omega))
  have hl' := hl.below HI.out.below (Nat.le_refl _)
  have hh' := hh.below HI.out.below (Nat.le_refl _)
  have x0 := HI.out.c0
  have x1 := HI.out.c1
  by_cases z1 : vs lo = 0
  · by_cases z2 : vs hi = 0
    · have E1 := Lib.hid (vs_ok z1).1
      have E2 := Lib.hid (vs_ok z2).1
      have HC3 := Lib.hid (fun h => isCon_3 (lo := lo) (hi := hi) (out := out) (mn := mn) (mx := mx) h)
      have HC4 := Lib.hid (fun h => isCon_4 (out := out) (mn := mn) (mx := mx) z1 z2 h)
      rw [z1] at HV1
      rw [z2] at HV2
      rw [E1.out] at HV1
      rw [E2.out] at HV2
      rw [E1.out, E2.out]
      rw [E1.out, E2.out] at HI
      rw [E1.out, E2.out] at hl' hh'
      rw [E1.out, E2.out] at x0 x1
      have x2 := HI.out.c2
      have x3 := HI.out.c3
      have x4 := HI.out.c4
      clear z1 z2
      go_enter Try.func103, Try.ntmps103
      go_wp2_with fail
      refine (HV1.out _ hl').mono ?_
      rintro e w' ⟨rfl, rfl⟩
      go_wp2_with fail
      refine (HV2.out _ hh').mono ?_
      rintro e w' ⟨rfl, rfl⟩
      go_wp2_with fail
      go_loop [18] (fun s18 => ∃ k : Nat, k ≤ 4 ∧ s18 = .int .i64 k ∧ leTo lo hi k = true) (fun s18 => 4 - (intOf s18).toNat)
      case atStart => exact ⟨0, Nat.zero_le _, rfl, rfl⟩
      case round =>
        obtain ⟨k, hk, rfl, ht⟩ := hrel
        have HT := Lib.hid ht
        clear ht
        by_cases hlt : k < 4
        · obtain ⟨lb, lf, x, rfl, hlb, hx, cx⟩ := hl'.at_ (show k < lo.length by rw [E1.out]; exact hlt)
          obtain ⟨hb, hf, y, rfl, hhb, hy, cy⟩ := hh'.at_ (show k < hi.length by rw [E2.out]; exact hlt)
          by_cases hxy : x ≤ y
          · have HS := Lib.hid (show leTo lo hi (k + 1) = true by rw [leTo_succ, HT.out, getD_of_get hx, getD_of_get hy]; simpa using hxy)
            have hxy' : ¬ y < x := by omega
            clear hx hy
            go_wp2_with fail
            go_round
            case rel => exact ⟨k + 1, by omega, by go_num, HS.out⟩
            case measure => simp [intOf]; omega
          · have hxy' : y < x := by omega
            have HS := Lib.hid (HC3.out (leTo_not hlt (by rw [getD_of_get hx, getD_of_get hy]; exact hxy)))
            clear hx hy
            go_wp2_with fail
            go_ret
            exact ⟨ret_bool HS.out.symm, HI.out.below⟩
        · have : k = 4 := by omega
          subst this
          have HN := Lib.hid (show isCon lo hi out mn mx = (isReg out && (btw mn (-999) 999 && (btw mx (-999) 999 && decide (mn ≤ mx)))) from HC4.out HT.out)
          have HR := Lib.hid (fun w => kIsRegister_any out w)
          have HM := Lib.hid (fun w => isValue_any mn w)
          have HX := Lib.hid (fun w => isValue_any mx w)
          generalize isReg out = c1 at HR HN
          generalize btw mn (-999) 999 = c2 at HM HN
          generalize btw mx (-999) 999 = c3 at HX HN
          cases c1
          · go_wp2_with fail
            refine (HR.out _).mono ?_
            rintro e w' ⟨rfl, rfl⟩
            go_wp2_with fail
            go_ret
            exact ⟨ret_bool (by rw [HN.out]; rfl), HI.out.below⟩
          · cases c2
            · go_wp2_with fail
              refine (HR.out _).mono ?_
              rintro e w' ⟨rfl, rfl⟩
              go_wp2_with fail
              refine (HM.out _).mono ?_
              rintro e w' ⟨rfl, rfl⟩
              go_wp2_with fail
              go_ret
              exact ⟨ret_bool (by rw [HN.out]; rfl), HI.out.below⟩
            · go_wp2_with fail
              refine (HR.out _).mono ?_
              rintro e w' ⟨rfl, rfl⟩
              go_wp2_with fail
              refine (HM.out _).mono ?_
              rintro e w' ⟨rfl, rfl⟩
              go_wp2_with fail
              refine (HX.out _).mono ?_
              rintro e w' ⟨rfl, rfl⟩
              cases c3
              · go_wp2_with fail
                go_ret
                exact ⟨ret_bool (by rw [HN.out]; rfl), HI.out.below⟩
              · go_wp2_with fail
                all_goals go_ret
                all_goals exact ⟨ret_bool (by rw [HN.out]; simp_all), HI.out.below⟩
    · have HC := Lib.hid (isCon_2 (lo := lo) (hi := hi) (out := out) (mn := mn) (mx := mx) z2)
      rw [HC.out]
      rw [z1] at HV1
      have z2' : (vs hi != 0) = true := by simpa using z2
      have z2'' : (vs hi == 0) = false := by simpa using z2
      generalize vs hi = c2 at HV2 z2' z2''
      clear z1 z2
      go_enter Try.func103, Try.ntmps103
      go_wp2_with fail
      refine (HV1.out _ hl').mono ?_
      rintro e w' ⟨rfl, rfl⟩
      go_wp2_with fail
      refine (HV2.out _ hh').mono ?_
      rintro e w' ⟨rfl, rfl⟩
      go_wp2_with fail
      go_ret
      exact ⟨rfl, HI.out.below⟩
  · have HC := Lib.hid (isCon_1 (lo := lo) (hi := hi) (out := out) (mn := mn) (mx := mx) z1)
    rw [HC.out]
    have z1' : (vs lo != 0) = true := by simpa using z1
    have z1'' : (vs lo == 0) = false := by simpa using z1
    generalize vs lo = c1 at HV1 z1' z1''
    clear z1
    go_enter Try.func103, Try.ntmps103
    go_wp2_with fail
    refine (HV1.out _ hl').mono ?_
    rintro e w' ⟨rfl, rfl⟩
    go_wp2_with fail
    go_ret
    exact ⟨rfl, HI.out.below⟩

end Go.Proofs.Ytmpgaccpdglhkaa

/- ValidateContract, Box: package check and the document's answers. -/
set_option linter.unusedVariables false
set_option linter.unusedSimpArgs false
namespace Go.Proofs.Ytmpgaccpdglhkaa
open Go.RowKit Tinker

theorem vcon_no {lo hi : List Int} {out mn mx : Int} (h : isCon lo hi out mn mx = false) : vcon lo hi out mn mx = 1 := by unfold vcon; rw [h]; rfl
theorem vcon_yes {lo hi : List Int} {out mn mx : Int} (h : isCon lo hi out mn mx = true) : vcon lo hi out mn mx = if 400 < prd lo hi 4 then 3 else 0 := by unfold vcon; rw [h]; rfl

set_option maxRecDepth 100000 in
set_option maxHeartbeats 2000000 in
theorem validateContract_C (a b : Option Addr) (ca cb : Nat) (lo hi : List Int) (out mn mx : Int) (w : World) (hl : IntsAt w a lo) (hh : IntsAt w b hi) (hm : lo.length ≤ 1000) (hm2 : hi.length ≤ 1000) :
    Calls Try.prog 70 #[.agg #[.slice a lo.length ca, .slice b hi.length cb, .int .i64 out, .int .i64 mn, .int .i64 mx]] w fun e w' => e = .returned (.int .i64 (vcon lo hi out mn mx)) ∧ Below w.heap.size w w' := by
  have HI := Lib.hid (boxC_new (a := a) (b := b) (n := lo.length) (m := hi.length) (ca := ca) (cb := cb) (out := out) (mn := mn) (mx := mx) w)
  have HC := Lib.hid (fun w hl hh => isContract_any a b ca cb lo hi out mn mx w hl hh hm hm2)
  have x0 := HI.out.c0
  have x1 := HI.out.c1
  have x2 := HI.out.c2
  have x3 := HI.out.c3
  have x4 := HI.out.c4
  cases hc : isCon lo hi out mn mx
  · rw [vcon_no hc]
    rw [hc] at HC
    clear hc
    go_enter Try.func70, Try.ntmps70
    go_wp2_with fail
    refine (HC.out _ (hl.below HI.out.below (Nat.le_refl _)) (hh.below HI.out.below (Nat.le_refl _))).mono ?_
    rintro e w1 ⟨rfl, hB⟩
    go_wp2_with fail
    go_ret
    exact ⟨rfl, HI.out.below.trans (hB.mono HI.out.below.size)⟩
  · rw [vcon_yes hc]
    rw [hc] at HC
    obtain ⟨h1, h2, h3, _⟩ := isCon_ok hc
    have HS := Lib.hid (fun w hl hh => size_any a b ca cb lo hi out mn mx w hl hh h1 h2 h3)
    generalize prd lo hi 4 = P at HS
    clear hc h1 h2 h3
    go_enter Try.func70, Try.ntmps70
    go_wp2_with fail
    refine (HC.out _ (hl.below HI.out.below (Nat.le_refl _)) (hh.below HI.out.below (Nat.le_refl _))).mono ?_
    rintro e w1 ⟨rfl, hB⟩
    have HI1 := Lib.hid (HI.out.low hB)
    clear HI hB x0 x1 x2 x3 x4
    have x0 := HI1.out.c0
    have x1 := HI1.out.c1
    have x2 := HI1.out.c2
    have x3 := HI1.out.c3
    have x4 := HI1.out.c4
    go_wp2_with fail
    refine (HS.out _ (hl.below HI1.out.below (Nat.le_refl _)) (hh.below HI1.out.below (Nat.le_refl _))).mono ?_
    rintro e w2 ⟨rfl, hB⟩
    have HI2 := Lib.hid (HI1.out.low hB)
    clear HI1 hB x0 x1 x2 x3 x4
    by_cases hp : 400 < P
    · go_wp2_with fail
      go_ret
      exact ⟨rfl, HI2.out.below⟩
    · go_wp2_with fail
      go_ret
      exact ⟨rfl, HI2.out.below⟩

end Go.Proofs.Ytmpgaccpdglhkaa
