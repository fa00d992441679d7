/- Lists of edits in memory. -/
import Derived.Test.YtfmheeboogffeaaPutB
set_option linter.unusedVariables false
set_option linter.unusedSimpArgs false
namespace Tinker
/-- An edit. -/
structure E where
  at_ : Int
  ln : L
end Tinker
namespace Go.Proofs.Ytfmheeboogffeaa
open Go.RowKit Tinker

/-- A slice's address leads to these edits. -/
def EditsAt (w : World) (a : Option Addr) (xs : List E) : Prop :=
  xs = [] ∨ ∃ b off, a = some ⟨b, off, none⟩ ∧ b < w.heap.size ∧ ∀ j e, xs[j]? = some e →
    w.cell? ⟨b, off + j * 5, none⟩ = some (.int .i64 e.at_) ∧ w.cell? ⟨b, off + j * 5 + 1, none⟩ = some (.int .i64 e.ln.op) ∧ w.cell? ⟨b, off + j * 5 + 2, none⟩ = some (.int .i64 e.ln.to) ∧
    w.cell? ⟨b, off + j * 5 + 3, none⟩ = some (.int .i64 e.ln.a) ∧ w.cell? ⟨b, off + j * 5 + 4, none⟩ = some (.int .i64 e.ln.b)
theorem EditsAt.below {w w' : World} {B : Nat} {a : Option Addr} {xs : List E} (h : EditsAt w a xs) (hb : Below B w w') (hB : w.heap.size ≤ B) : EditsAt w' a xs := by
  rcases h with h | ⟨b, off, e, hlt, hc⟩
  · exact .inl h
  · refine .inr ⟨b, off, e, Nat.lt_of_lt_of_le hlt hb.size, fun j l hj => ?_⟩
    obtain ⟨h0, h1, h2, h3, h4⟩ := hc j l hj
    exact ⟨(hb.cell (p := ⟨b, _, none⟩) (by show b < B; omega)).trans h0, (hb.cell (p := ⟨b, _, none⟩) (by show b < B; omega)).trans h1, (hb.cell (p := ⟨b, _, none⟩) (by show b < B; omega)).trans h2, (hb.cell (p := ⟨b, _, none⟩) (by show b < B; omega)).trans h3, (hb.cell (p := ⟨b, _, none⟩) (by show b < B; omega)).trans h4⟩
theorem EditsAt.at_ {w : World} {a : Option Addr} {xs : List E} (h : EditsAt w a xs) {k : Nat} (hk : k < xs.length) : ∃ b off e, a = some ⟨b, off, none⟩ ∧ b < w.heap.size ∧ xs[k]? = some e ∧
    w.cell? ⟨b, off + k * 5, none⟩ = some (.int .i64 e.at_) ∧ w.cell? ⟨b, off + k * 5 + 1, none⟩ = some (.int .i64 e.ln.op) ∧ w.cell? ⟨b, off + k * 5 + 2, none⟩ = some (.int .i64 e.ln.to) ∧
    w.cell? ⟨b, off + k * 5 + 3, none⟩ = some (.int .i64 e.ln.a) ∧ w.cell? ⟨b, off + k * 5 + 4, none⟩ = some (.int .i64 e.ln.b) := by
  obtain ⟨b, off, e, hlb, hc⟩ := h.resolve_left (by rintro rfl; simp at hk)
  obtain ⟨n, hn⟩ := get_of_lt hk
  exact ⟨b, off, n, e, hlb, hn, hc k n hn⟩

/-- The cells of a list of edits. -/
def ec (xs : List E) : List Value := xs.flatMap fun e => [.int .i64 e.at_, .int .i64 e.ln.op, .int .i64 e.ln.to, .int .i64 e.ln.a, .int .i64 e.ln.b]
theorem ec_cons (e : E) (xs : List E) : ec (e :: xs) = .int .i64 e.at_ :: .int .i64 e.ln.op :: .int .i64 e.ln.to :: .int .i64 e.ln.a :: .int .i64 e.ln.b :: ec xs := by simp [ec]
theorem ec_length : ∀ xs : List E, (ec xs).length = xs.length * 5
  | [] => rfl
  | l :: r => by rw [ec_cons]; simp [ec_length r]; omega
theorem ec_append (ps qs : List E) : ec (ps ++ qs) = ec ps ++ ec qs := by simp [ec]
theorem ec_one (ps : List E) : ∀ u ∈ ec ps, u.oneCell' = true := by
  intro u hu
  simp only [ec, List.mem_flatMap] at hu
  obtain ⟨l, _, hu⟩ := hu
  simp only [List.mem_cons, List.not_mem_nil, or_false] at hu
  rcases hu with rfl | rfl | rfl | rfl | rfl <;> rfl
theorem ec_get : ∀ {ps : List E} {i : Nat} {l : E}, ps[i]? = some l → (ec ps)[i * 5]? = some (.int .i64 l.at_) ∧ (ec ps)[i * 5 + 1]? = some (.int .i64 l.ln.op) ∧ (ec ps)[i * 5 + 2]? = some (.int .i64 l.ln.to) ∧ (ec ps)[i * 5 + 3]? = some (.int .i64 l.ln.a) ∧ (ec ps)[i * 5 + 4]? = some (.int .i64 l.ln.b)
  | [], i, l, h => by simp at h
  | x :: q, 0, l, h => by simp at h; subst h; rw [ec_cons]; simp
  | x :: q, i + 1, l, h => by
    have ih := ec_get (ps := q) (i := i) (by simpa using h)
    rw [ec_cons, show (i + 1) * 5 = i * 5 + 5 by omega]
    simpa using ih
theorem ec_inv {ps : List E} {j : Nat} {u : Value} (h : (ec ps)[j]? = some u) : ∃ l, ps[j / 5]? = some l ∧ ((j % 5 = 0 ∧ u = .int .i64 l.at_) ∨ (j % 5 = 1 ∧ u = .int .i64 l.ln.op) ∨ (j % 5 = 2 ∧ u = .int .i64 l.ln.to) ∨ (j % 5 = 3 ∧ u = .int .i64 l.ln.a) ∨ (j % 5 = 4 ∧ u = .int .i64 l.ln.b)) := by
  have hj : j < (ec ps).length := (List.getElem?_eq_some_iff.1 h).1
  rw [ec_length] at hj
  obtain ⟨l, hl⟩ := get_of_lt (show j / 5 < ps.length by omega)
  refine ⟨l, hl, ?_⟩
  obtain ⟨h0, h1, h2, h3, h4⟩ := ec_get hl
  have hm : j % 5 = 0 ∨ j % 5 = 1 ∨ j % 5 = 2 ∨ j % 5 = 3 ∨ j % 5 = 4 := by omega
  rcases hm with hm | hm | hm | hm | hm
  · rw [show j / 5 * 5 = j by omega, h] at h0; exact .inl ⟨hm, by simpa using h0⟩
  · rw [show j / 5 * 5 + 1 = j by omega, h] at h1; exact .inr (.inl ⟨hm, by simpa using h1⟩)
  · rw [show j / 5 * 5 + 2 = j by omega, h] at h2; exact .inr (.inr (.inl ⟨hm, by simpa using h2⟩))
  · rw [show j / 5 * 5 + 3 = j by omega, h] at h3; exact .inr (.inr (.inr (.inl ⟨hm, by simpa using h3⟩)))
  · rw [show j / 5 * 5 + 4 = j by omega, h] at h4; exact .inr (.inr (.inr (.inr ⟨hm, by simpa using h4⟩)))
theorem EditsAt.cells {w : World} {a : Addr} {ps : List E} (h : EditsAt w (some a) ps) : ∀ j u, (ec ps)[j]? = some u → w.cell? (a.add j) = some u := by
  intro j u hu
  obtain ⟨l, hl, hu⟩ := ec_inv hu
  obtain ⟨b, off, e, hlt, hc⟩ := h.resolve_left (by rintro rfl; simp at hl)
  injection e with e
  subst e
  obtain ⟨h0, h1, h2, h3, h4⟩ := hc _ _ hl
  have ea : ∀ n, (⟨b, off, none⟩ : Addr).add n = ⟨b, off + n, none⟩ := fun n => by simp [Addr.add]
  rw [ea]
  rcases hu with ⟨hm, rfl⟩ | ⟨hm, rfl⟩ | ⟨hm, rfl⟩ | ⟨hm, rfl⟩ | ⟨hm, rfl⟩
  · rw [show off + j = off + j / 5 * 5 by omega]; exact h0
  · rw [show off + j = off + j / 5 * 5 + 1 by omega]; exact h1
  · rw [show off + j = off + j / 5 * 5 + 2 by omega]; exact h2
  · rw [show off + j = off + j / 5 * 5 + 3 by omega]; exact h3
  · rw [show off + j = off + j / 5 * 5 + 4 by omega]; exact h4
theorem EditsAt.none {w : World} {xs : List E} (h : EditsAt w none xs) : xs = [] := h.resolve_right (by rintro ⟨b, off, e, _⟩; cases e)
theorem edits_of_own {w : World} {base : Nat} {e : TypeId} {a : Option Addr} {n c : Nat} {ps : List E} (h : w.ownsRow base e 5 (.slice a n c) n (ec ps)) : EditsAt w a ps ∧ ps.length = n := by
  have hl : ps.length = n := by have := h.1; rw [ec_length] at this; omega
  refine ⟨?_, hl⟩
  rcases h.2 with ⟨he, hn⟩ | ⟨g, cap, cur, he, _, hg, _, _, _, hx⟩
  · left; exact List.eq_nil_of_length_eq_zero (by omega)
  · injection he with ha hn hc
    subst ha
    right
    refine ⟨g, 0, rfl, hp_lt hg, fun j l hj => ?_⟩
    have key : ∀ k u, (ec ps)[k]? = some u → w.cell? ⟨g, k, Option.none⟩ = some u := fun k u hk => by
      refine hp_cell hg ?_
      rw [← hx, List.getElem?_take] at hk
      split at hk
      · simpa using hk
      · cases hk
    rw [Nat.zero_add]
    obtain ⟨h0, h1, h2, h3, h4⟩ := ec_get hj
    exact ⟨key _ _ h0, key _ _ h1, key _ _ h2, key _ _ h3, key _ _ h4⟩

/-- A new slice of edits. -/
def GivesEdits (ps : List E) (w : World) (e : Ending) (w' : World) : Prop :=
  ∃ a c, e = .returned (.slice a ps.length c) ∧ w'.ownsRow w.heap.size 123 5 (.slice a ps.length c) ps.length (ec ps) ∧ Below w.heap.size w w'
theorem givesEdits_of {w w1 : World} {v : Value} {ps : List E} {n : Nat} (hn : ps.length = n) (h : w1.ownsRow w.heap.size 123 5 v n (ec ps)) (hB : Below w.heap.size w w1) : GivesEdits ps w (.returned v) w1 := by
  subst hn
  obtain ⟨a, c, rfl⟩ := own_slice h
  exact ⟨a, c, rfl, h, hB⟩
/-- A new slice of edits, and a code. -/
def GivesEditsE (ps : List E) (c : Int) (w : World) (e : Ending) (w' : World) : Prop :=
  ∃ a cap, e = .returned (.tuple #[.slice a ps.length cap, .int .i64 c]) ∧ w'.ownsRow w.heap.size 123 5 (.slice a ps.length cap) ps.length (ec ps) ∧ Below w.heap.size w w'
theorem givesEditsE_nil {c : Int} {w w' : World} (hB : Below w.heap.size w w') : GivesEditsE [] c w (.returned (.tuple #[.slice none 0 0, .int .i64 c])) w' := ⟨none, 0, rfl, World.ownsRow_nil _ _ _ _, hB⟩
theorem GivesEdits.wide {ps : List E} {w w0 : World} {e : Ending} {w' : World} (h : GivesEdits ps w e w') (hB : Below w0.heap.size w0 w) : GivesEdits ps w0 e w' := by
  obtain ⟨a, c, he, ho, hb⟩ := h
  exact ⟨a, c, he, own_mono ho hB.size, hB.trans (hb.mono hB.size)⟩
theorem info_edit : (Try.prog.info? 123).map (fun i => (i.zero, i.size, i.bytes)) = some (some (.agg #[.int .i64 0, .int .i64 0, .int .i64 0, .int .i64 0, .int .i64 0]), 5, 40) := by kernel_rfl

end Go.Proofs.Ytfmheeboogffeaa
