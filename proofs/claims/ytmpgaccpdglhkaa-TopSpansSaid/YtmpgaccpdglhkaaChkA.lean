/- Several texts in one. -/
import Derived.Test.YtmpgaccpdglhkaaConB
/- ValidateContract, Box: the document's answers. -/
set_option linter.unusedVariables false
set_option linter.unusedSimpArgs false
namespace Go.Proofs.Ytmpgaccpdglhkaa
open Go.RowKit Tinker

/-- A number, at most 401. -/
def cap4 (n : Int) : Int := if 401 < n then 401 else n
theorem cap4_step {p f : Int} (hp : 1 ≤ p) (hf : 1 ≤ f) : cap4 (cap4 p * f) = cap4 (p * f) := by
  unfold cap4
  by_cases h : 401 < p
  · rw [if_pos h]
    have h1 : 401 * 1 ≤ 401 * f := Int.mul_le_mul_of_nonneg_left hf (by omega)
    have h2 : 401 * f ≤ p * f := Int.mul_le_mul_of_nonneg_right (by omega) (by omega)
    by_cases h3 : 401 < 401 * f
    · rw [if_pos h3, if_pos (by omega)]
    · rw [if_neg h3]
      have h4 : 401 * f = 401 := by omega
      rw [h4]
      by_cases h5 : 401 < p * f
      · rw [if_pos h5]
      · rw [if_neg h5]; omega
  · rw [if_neg h]
theorem cap4_le {p : Int} (hp : 1 ≤ p) : 1 ≤ cap4 p ∧ cap4 p ≤ 401 := by unfold cap4; split <;> omega
theorem cap4_big {p : Int} : 400 < cap4 p ↔ 400 < p := by unfold cap4; split <;> omega
theorem cap4_small {p : Int} (h : ¬ 400 < p) : cap4 p = p := by unfold cap4; rw [if_neg (by omega)]

set_option maxHeartbeats 400000 in
theorem rWithin2_any (n lo hi : Int) (w : World) :
    Calls Try.prog 120 #[.int .i64 n, .int .i64 lo, .int .i64 hi] w fun e w' => e = .returned (.bool (btw n lo hi)) ∧ w = w' := by
  go_enter Try.func120, Try.ntmps120
  go_wp2
  all_goals go_ret
  all_goals exact ⟨ret_bool (by simp [btw]; omega), rfl⟩

set_option maxRecDepth 100000 in
set_option maxHeartbeats 1000000 in
theorem rbox_any (a b : Option Addr) (ca cb : Nat) (lo hi : List Int) (out mn mx : Int) (w : World) (hl : IntsAt w a lo) (hh : IntsAt w b hi) (h1 : vs lo = 0) (h2 : vs hi = 0) (h3 : leTo lo hi 4 = true) :
    Calls Try.prog 121 #[.agg #[.slice a lo.length ca, .slice b hi.length cb, .int .i64 out, .int .i64 mn, .int .i64 mx]] w fun e w' => e = .returned (.int .i64 (cap4 (prd lo hi 4))) ∧ Below w.heap.size w w' := by
  have HP := Lib.hid (prd_le h1 h2 h3)
  have HF := Lib.hid (fun k => fac h1 h2 h3 (k := k))
  have HG1 := Lib.hid (fun k => getD_vs h1 (k := k))
  have HG2 := Lib.hid (fun k => getD_vs h2 (k := k))
  have E1 := Lib.hid (vs_ok h1).1
  have E2 := Lib.hid (vs_ok h2).1
  rw [E1.out, E2.out]
  clear h1 h2 h3
  have HI := Lib.hid (boxC_new (a := a) (b := b) (n := 4) (m := 4) (ca := ca) (cb := cb) (out := out) (mn := mn) (mx := mx) w)
  go_enter Try.func121, Try.ntmps121
  go_wp2_with fail
  go_loopw [4, 3] (fun s4 s3 wr => ∃ k : Nat, k ≤ 4 ∧ s4 = .int .i64 k ∧ s3 = .int .i64 (cap4 (prd lo hi k)) ∧ BoxC w.heap.size a b 4 4 ca cb out mn mx w wr) (fun s4 _ _ => 4 - (intOf s4).toNat)
  case atStart => exact ⟨0, Nat.zero_le _, rfl, by simp [prd, cap4], HI.out⟩
  case round =>
    obtain ⟨k, hk, rfl, rfl, hI⟩ := hrel
    have HI := Lib.hid hI
    clear hI
    by_cases hlt : k < 4
    · have x0 := HI.out.c0
      have x1 := HI.out.c1
      obtain ⟨lb, lf, x, rfl, hlb, hx, cx⟩ := (hl.below HI.out.below (Nat.le_refl _)).at_ (show k < lo.length by rw [E1.out]; exact hlt)
      obtain ⟨hb, hf, y, rfl, hhb, hy, cy⟩ := (hh.below HI.out.below (Nat.le_refl _)).at_ (show k < hi.length by rw [E2.out]; exact hlt)
      have f := HF.out k hlt
      have p := HP.out k (by omega)
      have q1 := HG1.out k hlt
      have q2 := HG2.out k hlt
      rw [getD_of_get hx] at f q1
      rw [getD_of_get hy] at f q2
      have HS := Lib.hid (show cap4 (prd lo hi (k + 1)) = cap4 (cap4 (prd lo hi k) * (y - x + 1)) by rw [cap4_step p.1 f.1, prd, getD_of_get hx, getD_of_get hy])
      have pc := cap4_le p.1
      generalize cap4 (prd lo hi k) = P at HS pc
      have pm := mul_le' pc.1 pc.2 f.1 f.2
      obtain ⟨pm1, pm2⟩ := pm
      have pm2 : P * (y - x + 1) ≤ 801599 := by omega
      clear p hx hy pc
      go_wp2_with fail
      go_region
      all_goals go_wp2_with fail
      all_goals go_roundw
      case rel => exact ⟨k + 1, by omega, by go_num, by rw [HS.out]; rfl, HI.out.drew⟩
      case measure => simp [intOf]; omega
    · have : k = 4 := by omega
      subst this
      go_wp2_with fail
      go_ret
      exact ⟨rfl, HI.out.below⟩

set_option maxRecDepth 100000 in
set_option maxHeartbeats 2000000 in
theorem rValidateContract_any (a b : Option Addr) (ca cb : Nat) (lo hi : List Int) (out mn mx : Int) (w : World) (hl : IntsAt w a lo) (hh : IntsAt w b hi) :
    Calls Try.prog 94 #[.agg #[.slice a lo.length ca, .slice b hi.length cb, .int .i64 out, .int .i64 mn, .int .i64 mx]] w fun e w' => e = .returned (.int .i64 (vcon lo hi out mn mx)) ∧ Below w.heap.size w w' := by
  have HI := Lib.hid (boxC_new (a := a) (b := b) (n := lo.length) (m := hi.length) (ca := ca) (cb := cb) (out := out) (mn := mn) (mx := mx) w)
  have HV1 := Lib.hid (fun w h => rValidateState_any a ca lo w h)
  have HV2 := Lib.hid (fun w h => rValidateState_any b cb hi w h)
  by_cases z1 : vs lo = 0
  · by_cases z2 : vs hi = 0
    · have E1 := Lib.hid (vs_ok z1).1
      have E2 := Lib.hid (vs_ok z2).1
      have HC3 := Lib.hid (fun h => vcon_no (isCon_3 (lo := lo) (hi := hi) (out := out) (mn := mn) (mx := mx) h))
      have HC4 := Lib.hid (fun h => isCon_4 (out := out) (mn := mn) (mx := mx) z1 z2 h)
      have HY := Lib.hid (vcon_yes (lo := lo) (hi := hi) (out := out) (mn := mn) (mx := mx))
      have HN := Lib.hid (vcon_no (lo := lo) (hi := hi) (out := out) (mn := mn) (mx := mx))
      have HBX := Lib.hid (fun h w hl hh => rbox_any a b ca cb lo hi out mn mx w hl hh z1 z2 h)
      rw [z1] at HV1
      rw [z2] at HV2
      rw [E1.out] at HV1 HBX
      rw [E2.out] at HV2 HBX
      rw [E1.out, E2.out]
      rw [E1.out, E2.out] at HI
      have x0 := HI.out.c0
      have x1 := HI.out.c1
      have x2 := HI.out.c2
      have x3 := HI.out.c3
      have x4 := HI.out.c4
      clear z1 z2
      go_enter Try.func94, Try.ntmps94
      go_wp2_with fail
      refine (HV1.out _ (hl.below HI.out.below (Nat.le_refl _))).mono ?_
      rintro e w' ⟨rfl, rfl⟩
      go_wp2_with fail
      refine (HV2.out _ (hh.below HI.out.below (Nat.le_refl _))).mono ?_
      rintro e w' ⟨rfl, rfl⟩
      go_wp2_with fail
      go_loopw [3] (fun s3 wr => ∃ k : Nat, k ≤ 4 ∧ s3 = .int .i64 k ∧ leTo lo hi k = true ∧ BoxC w.heap.size a b 4 4 ca cb out mn mx w wr) (fun s3 _ => 4 - (intOf s3).toNat)
      case atStart => exact ⟨0, Nat.zero_le _, rfl, rfl, HI.out⟩
      case round =>
        obtain ⟨k, hk, rfl, ht, hI⟩ := hrel
        have HT := Lib.hid ht
        have HI := Lib.hid hI
        clear ht hI x0 x1 x2 x3 x4
        have x0 := HI.out.c0
        have x1 := HI.out.c1
        have x2 := HI.out.c2
        have x3 := HI.out.c3
        have x4 := HI.out.c4
        by_cases hlt : k < 4
        · obtain ⟨lb, lf, x, rfl, hlb, hx, cx⟩ := (hl.below HI.out.below (Nat.le_refl _)).at_ (show k < lo.length by rw [E1.out]; exact hlt)
          obtain ⟨hb, hf, y, rfl, hhb, hy, cy⟩ := (hh.below HI.out.below (Nat.le_refl _)).at_ (show k < hi.length by rw [E2.out]; exact hlt)
          by_cases hxy : x ≤ y
          · have HS := Lib.hid (show leTo lo hi (k + 1) = true by rw [leTo_succ, HT.out, getD_of_get hx, getD_of_get hy]; simpa using hxy)
            have hxy' : ¬ y < x := by omega
            clear hx hy
            go_wp2_with fail
            go_quiet (fail)
            go_wp2_with fail
            go_roundw
            case rel => exact ⟨k + 1, by omega, by go_num, HS.out, HI.out.drewN _⟩
            case measure => simp [intOf]; omega
          · have hxy' : y < x := by omega
            have HS := Lib.hid (HC3.out (leTo_not hlt (by rw [getD_of_get hx, getD_of_get hy]; exact hxy)))
            clear hx hy
            go_wp2_with fail
            go_quiet (fail)
            go_wp2_with fail
            go_ret
            exact ⟨ret_int HS.out.symm, (HI.out.drewN _).below⟩
        · have : k = 4 := by omega
          subst this
          have HCC := Lib.hid (show isCon lo hi out mn mx = (isReg out && (btw mn (-999) 999 && (btw mx (-999) 999 && decide (mn ≤ mx)))) from HC4.out HT.out)
          have HR := Lib.hid (fun w => rWithin2_any out 0 3 w)
          have HM := Lib.hid (fun w => rWithin2_any mn (-999) 999 w)
          have HX := Lib.hid (fun w => rWithin2_any mx (-999) 999 w)
          unfold isReg at HCC
          generalize btw out 0 3 = c1 at HR HCC
          generalize btw mn (-999) 999 = c2 at HM HCC
          generalize btw mx (-999) 999 = c3 at HX HCC
          cases c1
          · go_wp2_with fail
            refine (HR.out _).mono ?_
            rintro e w' ⟨rfl, rfl⟩
            go_wp2_with fail
            go_ret
            exact ⟨ret_int (HN.out (by rw [HCC.out]; rfl)).symm, HI.out.below⟩
          · cases c2
            · go_wp2_with fail
              refine (HR.out _).mono ?_
              rintro e w' ⟨rfl, rfl⟩
              go_wp2_with fail
              refine (HM.out _).mono ?_
              rintro e w' ⟨rfl, rfl⟩
              go_wp2_with fail
              go_ret
              exact ⟨ret_int (HN.out (by rw [HCC.out]; rfl)).symm, HI.out.below⟩
            · cases c3
              · go_wp2_with fail
                refine (HR.out _).mono ?_
                rintro e w' ⟨rfl, rfl⟩
                go_wp2_with fail
                refine (HM.out _).mono ?_
                rintro e w' ⟨rfl, rfl⟩
                go_wp2_with fail
                refine (HX.out _).mono ?_
                rintro e w' ⟨rfl, rfl⟩
                go_wp2_with fail
                go_ret
                exact ⟨ret_int (HN.out (by rw [HCC.out]; rfl)).symm, HI.out.below⟩
              · by_cases hmm : mn ≤ mx
                · have hmm' : ¬ mx < mn := by omega
                  have HY2 := Lib.hid (HY.out (by rw [HCC.out]; simp [hmm]))
                  have HB4 := Lib.hid (HBX.out HT.out)
                  clear HCC HY HN HBX HC3 HC4 hmm
                  have h400 := cap4_big (p := prd lo hi 4)
                  go_wp2_with fail
                  refine (HR.out _).mono ?_
                  rintro e w' ⟨rfl, rfl⟩
                  go_wp2_with fail
                  refine (HM.out _).mono ?_
                  rintro e w' ⟨rfl, rfl⟩
                  go_wp2_with fail
                  refine (HX.out _).mono ?_
                  rintro e w' ⟨rfl, rfl⟩
                  go_wp2_with fail
                  refine (HB4.out _ (hl.below HI.out.below (Nat.le_refl _)) (hh.below HI.out.below (Nat.le_refl _))).mono ?_
                  rintro e w2 ⟨rfl, hB⟩
                  by_cases hp : 400 < prd lo hi 4
                  · have hp' := h400.2 hp
                    go_wp2_with fail
                    go_ret
                    exact ⟨ret_int (by rw [HY2.out, if_pos hp]), (HI.out.low hB).below⟩
                  · have hp' : ¬ 400 < cap4 (prd lo hi 4) := fun h => hp (h400.1 h)
                    go_wp2_with fail
                    go_ret
                    exact ⟨ret_int (by rw [HY2.out, if_neg (by omega)]), (HI.out.low hB).below⟩
                · have hmm' : mx < mn := by omega
                  have HN2 := Lib.hid (HN.out (by rw [HCC.out]; simp [hmm]))
                  clear hmm
                  go_wp2_with fail
                  refine (HR.out _).mono ?_
                  rintro e w' ⟨rfl, rfl⟩
                  go_wp2_with fail
                  refine (HM.out _).mono ?_
                  rintro e w' ⟨rfl, rfl⟩
                  go_wp2_with fail
                  refine (HX.out _).mono ?_
                  rintro e w' ⟨rfl, rfl⟩
                  go_wp2_with fail
                  go_ret
                  exact ⟨ret_int HN2.out.symm, HI.out.below⟩
    · have HC := Lib.hid (vcon_no (isCon_2 (lo := lo) (hi := hi) (out := out) (mn := mn) (mx := mx) z2))
      rw [HC.out]
      rw [z1] at HV1
      have z2' : (vs hi != 0) = true := by simpa using z2
      have z2'' : (vs hi == 0) = false := by simpa using z2
      generalize vs hi = c2 at HV2 z2' z2''
      clear z1 z2
      have x0 := HI.out.c0
      have x1 := HI.out.c1
      go_enter Try.func94, Try.ntmps94
      go_wp2_with fail
      refine (HV1.out _ (hl.below HI.out.below (Nat.le_refl _))).mono ?_
      rintro e w' ⟨rfl, rfl⟩
      go_wp2_with fail
      refine (HV2.out _ (hh.below HI.out.below (Nat.le_refl _))).mono ?_
      rintro e w' ⟨rfl, rfl⟩
      go_wp2_with fail
      go_ret
      exact ⟨rfl, HI.out.below⟩
  · have HC := Lib.hid (vcon_no (isCon_1 (lo := lo) (hi := hi) (out := out) (mn := mn) (mx := mx) z1))
    rw [HC.out]
    have z1' : (vs lo != 0) = true := by simpa using z1
    have z1'' : (vs lo == 0) = false := by simpa using z1
    generalize vs lo = c1 at HV1 z1' z1''
    clear z1
    have x0 := HI.out.c0
    have x1 := HI.out.c1
    go_enter Try.func94, Try.ntmps94
    go_wp2_with fail
    refine (HV1.out _ (hl.below HI.out.below (Nat.le_refl _))).mono ?_
    rintro e w' ⟨rfl, rfl⟩
    go_wp2_with fail
    go_ret
    exact ⟨rfl, HI.out.below⟩

set_option maxHeartbeats 400000 in
theorem large2_any (a : Option Addr) (n cap : Nat) (w : World) : Calls Try.prog 53 #[.slice a n cap] w fun e w' => e = .returned (.bool (decide ((100 : Int) < (n : Int)))) ∧ w = w' := by
  go_enter Try.func53, Try.ntmps53
  go_wp2
  all_goals go_ret
  all_goals exact ⟨rfl, rfl⟩

set_option maxRecDepth 100000 in
set_option maxHeartbeats 1000000 in
theorem wide_any (a b : Option Addr) (ca cb n m : Nat) (out mn mx : Int) (w : World) :
    Calls Try.prog 21 #[.agg #[.slice a n ca, .slice b m cb, .int .i64 out, .int .i64 mn, .int .i64 mx]] w fun e w' => e = .returned (.bool (decide (100 < n ∨ 100 < m))) ∧ Below w.heap.size w w' := by
  have HI := Lib.hid (boxC_new (a := a) (b := b) (n := n) (m := m) (ca := ca) (cb := cb) (out := out) (mn := mn) (mx := mx) w)
  have HA := Lib.hid (fun w => large2_any a n ca w)
  have HB := Lib.hid (fun w => large2_any b m cb w)
  have x0 := HI.out.c0
  have x1 := HI.out.c1
  by_cases h1 : 100 < n
  · rw [show decide ((100 : Int) < (n : Int)) = true by simp; omega] at HA
    go_enter Try.func21, Try.ntmps21
    go_wp2_with fail
    refine (HA.out _).mono ?_
    rintro e w1 ⟨rfl, rfl⟩
    go_wp2_with fail
    go_ret
    exact ⟨ret_bool (by simp; omega), HI.out.below⟩
  · rw [show decide ((100 : Int) < (n : Int)) = false by simp; omega] at HA
    go_enter Try.func21, Try.ntmps21
    go_wp2_with fail
    refine (HA.out _).mono ?_
    rintro e w1 ⟨rfl, rfl⟩
    go_wp2_with fail
    refine (HB.out _).mono ?_
    rintro e w1 ⟨rfl, rfl⟩
    go_wp2_with fail
    go_ret
    exact ⟨ret_bool (by rw [decide_eq_decide]; omega), HI.out.below⟩

end Go.Proofs.Ytmpgaccpdglhkaa

/- Tests: what is valid; contracts of package check. -/
set_option linter.unusedVariables false
set_option linter.unusedSimpArgs false
namespace Go.Proofs.Ytmpgaccpdglhkaa
open Go.RowKit Tinker

/-- A test. -/
structure T where
  inn : List Int
  out : Int
  want : Int
def isT (t : T) : Bool := decide (vs t.inn = 0) && (isReg t.out && btw t.want (-999) 999)
def vts (ts : List T) : Int := if ts.length ≤ 8 then (if ts.all isT then 0 else 1) else 3
theorem isT_ok {t : T} (h : isT t = true) : vs t.inn = 0 ∧ isReg t.out = true ∧ btw t.want (-999) 999 = true := by
  unfold isT at h
  simp only [Bool.and_eq_true, decide_eq_true_eq] at h
  exact h
theorem vts_ok {ts : List T} (h : vts ts = 0) : ts.length ≤ 8 ∧ ∀ t ∈ ts, isT t = true := by
  unfold vts at h
  split at h
  · split at h
    · rename_i h1 h2
      exact ⟨h1, List.all_eq_true.1 h2⟩
    · cases h
  · cases h
/-- A slice's address leads to these tests. -/
def TestsAt (w : World) (g : Option Addr) (ts : List T) : Prop :=
  ts = [] ∨ ∃ b off, g = some ⟨b, off, none⟩ ∧ b < w.heap.size ∧ ∀ j t, ts[j]? = some t → ∃ a c,
    w.cell? ⟨b, off + j * 3, none⟩ = some (.slice a t.inn.length c) ∧ w.cell? ⟨b, off + j * 3 + 1, none⟩ = some (.int .i64 t.out) ∧
    w.cell? ⟨b, off + j * 3 + 2, none⟩ = some (.int .i64 t.want) ∧ IntsAt w a t.inn
theorem TestsAt.below {w w' : World} {B : Nat} {g : Option Addr} {ts : List T} (h : TestsAt w g ts) (hb : Below B w w') (hB : w.heap.size ≤ B) : TestsAt w' g ts := by
  rcases h with h | ⟨b, off, e, hlt, hc⟩
  · exact .inl h
  · refine .inr ⟨b, off, e, Nat.lt_of_lt_of_le hlt hb.size, fun j t hj => ?_⟩
    obtain ⟨a, c, h0, h1, h2, h3⟩ := hc j t hj
    exact ⟨a, c, (hb.cell (p := ⟨b, _, none⟩) (by show b < B; omega)).trans h0, (hb.cell (p := ⟨b, _, none⟩) (by show b < B; omega)).trans h1, (hb.cell (p := ⟨b, _, none⟩) (by show b < B; omega)).trans h2, h3.below hb hB⟩
theorem TestsAt.at_ {w : World} {g : Option Addr} {ts : List T} (h : TestsAt w g ts) {k : Nat} (hk : k < ts.length) : ∃ b off t a c, g = some ⟨b, off, none⟩ ∧ b < w.heap.size ∧ ts[k]? = some t ∧
    w.cell? ⟨b, off + k * 3, none⟩ = some (.slice a t.inn.length c) ∧ w.cell? ⟨b, off + k * 3 + 1, none⟩ = some (.int .i64 t.out) ∧
    w.cell? ⟨b, off + k * 3 + 2, none⟩ = some (.int .i64 t.want) ∧ IntsAt w a t.inn := by
  obtain ⟨b, off, e, hlb, hc⟩ := h.resolve_left (by rintro rfl; simp at hk)
  obtain ⟨t, ht⟩ := get_of_lt hk
  obtain ⟨a, c, h⟩ := hc k t ht
  exact ⟨b, off, t, a, c, e, hlb, ht, h⟩

section
variable {x : Nat} {a : Option Addr} {n ca : Nat} {out want : Int} {w W W' : World}
end

/-- The errors of a program and tests. -/
def vpt (ps : List L) (ts : List T) : Int := fe (vp ps) (vts ts)
theorem vpt_ok {ps : List L} {ts : List T} (h : vpt ps ts = 0) : vp ps = 0 ∧ vts ts = 0 := by
  unfold vpt fe at h
  split at h
  · exact ⟨by assumption, h⟩
  · exact absurd h (by assumption)

/-- What a register is at the end. -/
def endP (ps : List L) (s : List Int) (out : Int) : Int := (runE ps s).getD out.toNat 0
set_option maxRecDepth 100000 in
set_option maxHeartbeats 400000 in
theorem end_any (a b : Option Addr) (ca cb : Nat) (ps : List L) (s : List Int) (out : Int) (w : World) (hp : LinesAt w a ps) (hs : IntsAt w b s) (hz : vr ps s = 0) (ho : isReg out = true) :
    Calls Try.prog 69 #[.slice a ps.length ca, .slice b s.length cb, .int .i64 out] w fun e w' => e = .returned (.int .i64 (endP ps s out)) ∧ Below w.heap.size w w' := by
  have h4 := (vs_ok (vr_ok hz).2).1
  have hE := (runE_ok hz).1
  have HR := Lib.hid (fun w hp hs => run_any a b ca cb ps s w hp hs (by omega))
  have er : runL ps s = runE ps s := by unfold runL; rw [if_pos hz]
  rw [er, hz] at HR
  obtain ⟨r0, r3⟩ := isReg_iff.1 ho
  have HE := Lib.hid (show endP ps s out = (runE ps s).getD out.toNat 0 from rfl)
  generalize endP ps s out = V at HE
  generalize runE ps s = E at HR HE hE
  have H4 := Lib.hid hE
  clear er hz ho h4 hE
  go_enter Try.func69, Try.ntmps69
  go_wp2_with fail
  refine (HR.out _ hp hs).mono ?_
  intro e w1 hG
  obtain ⟨a1, k1, rfl, hi1, hB1⟩ := hG.weak
  obtain ⟨eb, eo, x, rfl, hlb, hx, cx⟩ := hi1.at_ (show out.toNat < E.length by rw [H4.out]; omega)
  have HX := Lib.hid (show x = V by rw [HE.out, getD_of_get hx])
  have l1 : out < (E.length : Int) := by rw [H4.out]; omega
  clear hG hi1 hx
  go_wp2_with fail
  go_ret
  exact ⟨ret_int HX.out, hB1⟩

/-- Whether a program passes a test. -/
def pas (ps : List L) (t : T) : Bool := endP ps t.inn t.out == t.want
end Go.Proofs.Ytmpgaccpdglhkaa
