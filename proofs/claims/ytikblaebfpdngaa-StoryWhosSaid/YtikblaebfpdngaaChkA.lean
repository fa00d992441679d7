/- Several texts in one. -/
import Derived.Test.YtikblaebfpdngaaConB
/- ValidateContract, Box: the document's answers. -/
set_option linter.unusedVariables false
set_option linter.unusedSimpArgs false
namespace Go.Proofs.Ytikblaebfpdngaa
open Go.RowKit Tinker

/-- A number, at most 401. -/
def cap4 (n : Int) : Int := if 401 < n then 401 else n
theorem cap4_step {p f : Int} (hp : 1 ≤ p) (hf : 1 ≤ f) : cap4 (cap4 p * f) = cap4 (p * f) := by
  unfold cap4
  by_cases h : 401 < p
  · rw [if_pos h]
    have h1 : 401 * 1 ≤ 401 * f := Int.mul_le_mul_of_nonneg_left hf (by omega)
    have h2 : 401 * f ≤ p * f := Int.mul_le_mul_of_nonneg_right (by omega) (by omega)
    by_cases h3 : 401 < 401 * f
    · rw [if_pos h3, if_pos (by omega)]
    · rw [if_neg h3]
      have h4 : 401 * f = 401 := by omega
      rw [h4]
      by_cases h5 : 401 < p * f
      · rw [if_pos h5]
      · rw [if_neg h5]; omega
  · rw [if_neg h]
theorem cap4_le {p : Int} (hp : 1 ≤ p) : 1 ≤ cap4 p ∧ cap4 p ≤ 401 := by unfold cap4; split <;> omega
theorem cap4_big {p : Int} : 400 < cap4 p ↔ 400 < p := by unfold cap4; split <;> omega
theorem cap4_small {p : Int} (h : ¬ 400 < p) : cap4 p = p := by unfold cap4; rw [if_neg (by omega)]

end Go.Proofs.Ytikblaebfpdngaa

/- Tests: what is valid; contracts of package check. -/
set_option linter.unusedVariables false
set_option linter.unusedSimpArgs false
namespace Go.Proofs.Ytikblaebfpdngaa
open Go.RowKit Tinker

/-- A test. -/
structure T where
  inn : List Int
  out : Int
  want : Int
def isT (t : T) : Bool := decide (vs t.inn = 0) && (isReg t.out && btw t.want (-999) 999)
def vts (ts : List T) : Int := if ts.length ≤ 8 then (if ts.all isT then 0 else 1) else 3
theorem isT_ok {t : T} (h : isT t = true) : vs t.inn = 0 ∧ isReg t.out = true ∧ btw t.want (-999) 999 = true := by
  unfold isT at h
  simp only [Bool.and_eq_true, decide_eq_true_eq] at h
  exact h
theorem vts_ok {ts : List T} (h : vts ts = 0) : ts.length ≤ 8 ∧ ∀ t ∈ ts, isT t = true := by
  unfold vts at h
  split at h
  · split at h
    · rename_i h1 h2
      exact ⟨h1, List.all_eq_true.1 h2⟩
    · cases h
  · cases h
/-- A slice's address leads to these tests. -/
def TestsAt (w : World) (g : Option Addr) (ts : List T) : Prop :=
  ts = [] ∨ ∃ b off, g = some ⟨b, off, none⟩ ∧ b < w.heap.size ∧ ∀ j t, ts[j]? = some t → ∃ a c,
    w.cell? ⟨b, off + j * 3, none⟩ = some (.slice a t.inn.length c) ∧ w.cell? ⟨b, off + j * 3 + 1, none⟩ = some (.int .i64 t.out) ∧
    w.cell? ⟨b, off + j * 3 + 2, none⟩ = some (.int .i64 t.want) ∧ IntsAt w a t.inn
theorem TestsAt.below {w w' : World} {B : Nat} {g : Option Addr} {ts : List T} (h : TestsAt w g ts) (hb : Below B w w') (hB : w.heap.size ≤ B) : TestsAt w' g ts := by
  rcases h with h | ⟨b, off, e, hlt, hc⟩
  · exact .inl h
  · refine .inr ⟨b, off, e, Nat.lt_of_lt_of_le hlt hb.size, fun j t hj => ?_⟩
    obtain ⟨a, c, h0, h1, h2, h3⟩ := hc j t hj
    exact ⟨a, c, (hb.cell (p := ⟨b, _, none⟩) (by show b < B; omega)).trans h0, (hb.cell (p := ⟨b, _, none⟩) (by show b < B; omega)).trans h1, (hb.cell (p := ⟨b, _, none⟩) (by show b < B; omega)).trans h2, h3.below hb hB⟩
theorem TestsAt.at_ {w : World} {g : Option Addr} {ts : List T} (h : TestsAt w g ts) {k : Nat} (hk : k < ts.length) : ∃ b off t a c, g = some ⟨b, off, none⟩ ∧ b < w.heap.size ∧ ts[k]? = some t ∧
    w.cell? ⟨b, off + k * 3, none⟩ = some (.slice a t.inn.length c) ∧ w.cell? ⟨b, off + k * 3 + 1, none⟩ = some (.int .i64 t.out) ∧
    w.cell? ⟨b, off + k * 3 + 2, none⟩ = some (.int .i64 t.want) ∧ IntsAt w a t.inn := by
  obtain ⟨b, off, e, hlb, hc⟩ := h.resolve_left (by rintro rfl; simp at hk)
  obtain ⟨t, ht⟩ := get_of_lt hk
  obtain ⟨a, c, h⟩ := hc k t ht
  exact ⟨b, off, t, a, c, e, hlb, ht, h⟩

/-- A boxed test. -/
structure BoxT (x : Nat) (a : Option Addr) (n ca : Nat) (out want : Int) (w W : World) : Prop where
  bl : W.heap[x]? = some (.cells #[.slice a n ca, .int .i64 out, .int .i64 want] 119 (0, 0))
  below : Below w.heap.size w W
section
variable {x : Nat} {a : Option Addr} {n ca : Nat} {out want : Int} {w W W' : World}
theorem BoxT.low (h : BoxT x a n ca out want w W) (hb : Below W.heap.size W W') : BoxT x a n ca out want w W' := ⟨hp_below h.bl hb (hp_lt h.bl), h.below.trans (hb.mono h.below.size)⟩
theorem BoxT.drew (h : BoxT x a n ca out want w W) : BoxT x a n ca out want w W.drew := ⟨hp_drew h.bl, h.below.drew⟩
theorem BoxT.c0 (h : BoxT x a n ca out want w W) : W.cell? ⟨x, 0, none⟩ = some (.slice a n ca) := hp_cell h.bl (by rfl)
theorem BoxT.c1 (h : BoxT x a n ca out want w W) : W.cell? ⟨x, 1, none⟩ = some (.int .i64 out) := hp_cell h.bl (by rfl)
theorem BoxT.c2 (h : BoxT x a n ca out want w W) : W.cell? ⟨x, 2, none⟩ = some (.int .i64 want) := hp_cell h.bl (by rfl)
theorem boxT_new (w : World) : BoxT w.heap.size a n ca out want w (w.alloc (.cells #[.slice a n ca, .int .i64 out, .int .i64 want] 119)) := ⟨hp_new rfl, (Below.refl _ _).alloc (Nat.le_refl _) _⟩
end

set_option maxRecDepth 100000 in
set_option maxHeartbeats 1000000 in
theorem isTest_any (a : Option Addr) (ca : Nat) (t : T) (w : World) (hs : IntsAt w a t.inn) (hm : t.inn.length ≤ 1000) :
    Calls Try.prog 108 #[.agg #[.slice a t.inn.length ca, .int .i64 t.out, .int .i64 t.want]] w fun e w' => e = .returned (.bool (isT t)) ∧ Below w.heap.size w w' := by
  obtain ⟨inn, out, want⟩ := t
  have HI := Lib.hid (boxT_new (a := a) (n := inn.length) (ca := ca) (out := out) (want := want) w)
  have HV := Lib.hid (fun w h => validateState_any a ca inn w h (by simp at hm; omega))
  have HR := Lib.hid (fun w => kIsRegister_any out w)
  have HW := Lib.hid (fun w => isValue_any want w)
  have HS := Lib.hid (hs.below HI.out.below (Nat.le_refl _))
  have x0 := HI.out.c0
  have x1 := HI.out.c1
  have x2 := HI.out.c2
  unfold isT
  by_cases hz : vs inn = 0
  · rw [show decide (vs inn = 0) = true by simpa using hz]
    rw [hz] at HV
    generalize isReg out = c1 at HR
    generalize btw want (-999) 999 = c2 at HW
    clear hz hs
    cases c1
    · go_enter Try.func108, Try.ntmps108
      go_wp2_with fail
      refine (HV.out _ HS.out).mono ?_
      rintro e w' ⟨rfl, rfl⟩
      go_wp2_with fail
      refine (HR.out _).mono ?_
      rintro e w' ⟨rfl, rfl⟩
      go_wp2_with fail
      go_ret
      exact ⟨rfl, HI.out.below⟩
    · go_enter Try.func108, Try.ntmps108
      go_wp2_with fail
      refine (HV.out _ HS.out).mono ?_
      rintro e w' ⟨rfl, rfl⟩
      go_wp2_with fail
      refine (HR.out _).mono ?_
      rintro e w' ⟨rfl, rfl⟩
      go_wp2_with fail
      refine (HW.out _).mono ?_
      rintro e w' ⟨rfl, rfl⟩
      go_wp2_with fail
      go_ret
      exact ⟨rfl, HI.out.below⟩
  · rw [show decide (vs inn = 0) = false by simpa using hz]
    have hz1 : (vs inn == 0) = false := by simpa using hz
    have hz2 : (vs inn != 0) = true := by simpa using hz
    generalize vs inn = c at HV hz1 hz2
    clear hz hs
    go_enter Try.func108, Try.ntmps108
    go_wp2_with fail
    refine (HV.out _ HS.out).mono ?_
    rintro e w' ⟨rfl, rfl⟩
    go_wp2_with fail
    go_ret
    exact ⟨rfl, HI.out.below⟩

set_option maxRecDepth 100000 in
set_option maxHeartbeats 1000000 in
theorem validateTests_C (g : Option Addr) (cap : Nat) (ts : List T) (w : World) (hts : TestsAt w g ts) (hm : ts.length ≤ 1000) (hml : ∀ t ∈ ts, t.inn.length ≤ 1000) :
    Calls Try.prog 97 #[.slice g ts.length cap] w fun e w' => e = .returned (.int .i64 (vts ts)) ∧ Below w.heap.size w w' := by
  by_cases h8 : ts.length ≤ 8
  · go_enter Try.func97, Try.ntmps97
    go_wp2_with fail
    go_loopw [10] (fun s wr => ∃ k : Nat, k ≤ ts.length ∧ s = .int .i64 k ∧ (ts.take k).all isT = true ∧ Below w.heap.size w wr) (fun s _ => ts.length - (intOf s).toNat)
    case atStart => exact ⟨0, Nat.zero_le _, rfl, by simp, Below.refl _ _⟩
    case round =>
      obtain ⟨k, hk, rfl, hall, hB⟩ := hrel
      have HA := Lib.hid hall
      clear hall
      by_cases hlt : k < ts.length
      · obtain ⟨b, off, t, a, c, rfl, hlb, ht, c0, c1, c2, hi⟩ := (hts.below hB (Nat.le_refl _)).at_ hlt
        have HTT := Lib.hid (fun w h => isTest_any a c t w h (hml t (mem_of_get ht)))
        have HT := Lib.hid ht
        have hnew := boxT_new (a := a) (n := t.inn.length) (ca := c) (out := t.out) (want := t.want) wr
        have HI := Lib.hid hnew
        have x0 := hnew.c0
        have x1 := hnew.c1
        have x2 := hnew.c2
        have HS := Lib.hid (hi.below hnew.below (Nat.le_refl _))
        clear ht hi hnew
        cases hv : isT t
        · rw [hv] at HTT
          have HX := Lib.hid (show vts ts = 1 by unfold vts; rw [if_pos h8, if_neg (fun h => by have := List.all_eq_true.1 h t (mem_of_get HT.out); rw [hv] at this; cases this)])
          clear hv
          go_wp2_with fail
          refine (HTT.out _ HS.out).mono ?_
          rintro e w1 ⟨rfl, hB1⟩
          go_wp2_with fail
          go_ret
          exact ⟨ret_int HX.out.symm, hB.trans ((HI.out.low hB1).below.mono hB.size)⟩
        · rw [hv] at HTT
          have HV := Lib.hid hv
          clear hv
          go_wp2_with fail
          refine (HTT.out _ HS.out).mono ?_
          rintro e w1 ⟨rfl, hB1⟩
          have HBB := Lib.hid (hB.trans ((HI.out.low hB1).below.mono hB.size))
          clear hB1
          go_wp2_with fail
          go_roundw
          case rel => exact ⟨k + 1, by omega, by go_num, all_snoc HA.out HT.out HV.out, HBB.out⟩
          case measure => simp [intOf]; omega
      · have HX := Lib.hid (show vts ts = 0 by unfold vts; rw [if_pos h8, if_pos (all_whole HA.out hlt)])
        go_wp2_with fail
        go_ret
        exact ⟨ret_int HX.out.symm, hB⟩
  · have HX := Lib.hid (show vts ts = 3 by unfold vts; rw [if_neg h8])
    have h8' : 8 < ts.length := by omega
    have h8'' : (8 : Int) < (ts.length : Int) := by omega
    rw [HX.out]
    clear h8
    go_enter Try.func97, Try.ntmps97
    go_wp2_with fail
    go_ret
    exact ⟨rfl, Below.refl _ _⟩

/-- The errors of a program and tests. -/
def vpt (ps : List L) (ts : List T) : Int := fe (vp ps) (vts ts)
theorem vpt_ok {ps : List L} {ts : List T} (h : vpt ps ts = 0) : vp ps = 0 ∧ vts ts = 0 := by
  unfold vpt fe at h
  split at h
  · exact ⟨by assumption, h⟩
  · exact absurd h (by assumption)

/-- What a register is at the end. -/
def endP (ps : List L) (s : List Int) (out : Int) : Int := (runE ps s).getD out.toNat 0
/-- Whether a program passes a test. -/
def pas (ps : List L) (t : T) : Bool := endP ps t.inn t.out == t.want
end Go.Proofs.Ytikblaebfpdngaa
