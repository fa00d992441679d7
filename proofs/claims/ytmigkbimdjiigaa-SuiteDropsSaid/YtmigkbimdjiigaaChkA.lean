/- Several texts in one. -/
import Derived.Test.YtmigkbimdjiigaaConB
/- ValidateContract, Box: the document's answers. -/
set_option linter.unusedVariables false
set_option linter.unusedSimpArgs false
namespace Go.Proofs.Ytmigkbimdjiigaa
open Go.RowKit Tinker

/-- A number, at most 401. -/
def cap4 (n : Int) : Int := if 401 < n then 401 else n
theorem cap4_step {p f : Int} (hp : 1 ≤ p) (hf : 1 ≤ f) : cap4 (cap4 p * f) = cap4 (p * f) := by
  unfold cap4
  by_cases h : 401 < p
  · rw [if_pos h]
    have h1 : 401 * 1 ≤ 401 * f := Int.mul_le_mul_of_nonneg_left hf (by omega)
    have h2 : 401 * f ≤ p * f := Int.mul_le_mul_of_nonneg_right (by omega) (by omega)
    by_cases h3 : 401 < 401 * f
    · rw [if_pos h3, if_pos (by omega)]
    · rw [if_neg h3]
      have h4 : 401 * f = 401 := by omega
      rw [h4]
      by_cases h5 : 401 < p * f
      · rw [if_pos h5]
      · rw [if_neg h5]; omega
  · rw [if_neg h]
theorem cap4_le {p : Int} (hp : 1 ≤ p) : 1 ≤ cap4 p ∧ cap4 p ≤ 401 := by unfold cap4; split <;> omega
theorem cap4_big {p : Int} : 400 < cap4 p ↔ 400 < p := by unfold cap4; split <;> omega
theorem cap4_small {p : Int} (h : ¬ 400 < p) : cap4 p = p := by unfold cap4; rw [if_neg (by omega)]

end Go.Proofs.Ytmigkbimdjiigaa

/- Tests: what is valid; contracts of package check. -/
set_option linter.unusedVariables false
set_option linter.unusedSimpArgs false
namespace Go.Proofs.Ytmigkbimdjiigaa
open Go.RowKit Tinker

/-- A test. -/
structure T where
  inn : List Int
  out : Int
  want : Int
def isT (t : T) : Bool := decide (vs t.inn = 0) && (isReg t.out && btw t.want (-999) 999)
def vts (ts : List T) : Int := if ts.length ≤ 8 then (if ts.all isT then 0 else 1) else 3
theorem isT_ok {t : T} (h : isT t = true) : vs t.inn = 0 ∧ isReg t.out = true ∧ btw t.want (-999) 999 = true := by
  unfold isT at h
  simp only [Bool.and_eq_true, decide_eq_true_eq] at h
  exact h
theorem vts_ok {ts : List T} (h : vts ts = 0) : ts.length ≤ 8 ∧ ∀ t ∈ ts, isT t = true := by
  unfold vts at h
  split at h
  · split at h
    · rename_i h1 h2
      exact ⟨h1, List.all_eq_true.1 h2⟩
    · cases h
  · cases h
/-- A slice's address leads to these tests. -/
def TestsAt (w : World) (g : Option Addr) (ts : List T) : Prop :=
  ts = [] ∨ ∃ b off, g = some ⟨b, off, none⟩ ∧ b < w.heap.size ∧ ∀ j t, ts[j]? = some t → ∃ a c,
    w.cell? ⟨b, off + j * 3, none⟩ = some (.slice a t.inn.length c) ∧ w.cell? ⟨b, off + j * 3 + 1, none⟩ = some (.int .i64 t.out) ∧
    w.cell? ⟨b, off + j * 3 + 2, none⟩ = some (.int .i64 t.want) ∧ IntsAt w a t.inn
theorem TestsAt.below {w w' : World} {B : Nat} {g : Option Addr} {ts : List T} (h : TestsAt w g ts) (hb : Below B w w') (hB : w.heap.size ≤ B) : TestsAt w' g ts := by
  rcases h with h | ⟨b, off, e, hlt, hc⟩
  · exact .inl h
  · refine .inr ⟨b, off, e, Nat.lt_of_lt_of_le hlt hb.size, fun j t hj => ?_⟩
    obtain ⟨a, c, h0, h1, h2, h3⟩ := hc j t hj
    exact ⟨a, c, (hb.cell (p := ⟨b, _, none⟩) (by show b < B; omega)).trans h0, (hb.cell (p := ⟨b, _, none⟩) (by show b < B; omega)).trans h1, (hb.cell (p := ⟨b, _, none⟩) (by show b < B; omega)).trans h2, h3.below hb hB⟩
theorem TestsAt.at_ {w : World} {g : Option Addr} {ts : List T} (h : TestsAt w g ts) {k : Nat} (hk : k < ts.length) : ∃ b off t a c, g = some ⟨b, off, none⟩ ∧ b < w.heap.size ∧ ts[k]? = some t ∧
    w.cell? ⟨b, off + k * 3, none⟩ = some (.slice a t.inn.length c) ∧ w.cell? ⟨b, off + k * 3 + 1, none⟩ = some (.int .i64 t.out) ∧
    w.cell? ⟨b, off + k * 3 + 2, none⟩ = some (.int .i64 t.want) ∧ IntsAt w a t.inn := by
  obtain ⟨b, off, e, hlb, hc⟩ := h.resolve_left (by rintro rfl; simp at hk)
  obtain ⟨t, ht⟩ := get_of_lt hk
  obtain ⟨a, c, h⟩ := hc k t ht
  exact ⟨b, off, t, a, c, e, hlb, ht, h⟩

section
variable {x : Nat} {a : Option Addr} {n ca : Nat} {out want : Int} {w W W' : World}
end

/-- The errors of a program and tests. -/
def vpt (ps : List L) (ts : List T) : Int := fe (vp ps) (vts ts)
theorem vpt_ok {ps : List L} {ts : List T} (h : vpt ps ts = 0) : vp ps = 0 ∧ vts ts = 0 := by
  unfold vpt fe at h
  split at h
  · exact ⟨by assumption, h⟩
  · exact absurd h (by assumption)

/-- What a register is at the end. -/
def endP (ps : List L) (s : List Int) (out : Int) : Int := (runE ps s).getD out.toNat 0
/-- Whether a program passes a test. -/
def pas (ps : List L) (t : T) : Bool := endP ps t.inn t.out == t.want
end Go.Proofs.Ytmigkbimdjiigaa
