/- Lists of lines in memory; copies of them; contracts of Long, large, hasLine, Copy, slices.Clone, Same. -/
import Derived.Test.YtmigkbimdjiigaaLineC
import Derived.Laws.AppendOwnNone
set_option linter.unusedVariables false
set_option linter.unusedSimpArgs false
namespace Go.Proofs.Ytmigkbimdjiigaa
open Go.RowKit Tinker

/-- The cells of a list of lines. -/
def lc (ps : List L) : List Value := ps.flatMap fun l => [.int .i64 l.op, .int .i64 l.to, .int .i64 l.a, .int .i64 l.b]
theorem lc_cons (l : L) (ps : List L) : lc (l :: ps) = .int .i64 l.op :: .int .i64 l.to :: .int .i64 l.a :: .int .i64 l.b :: lc ps := by simp [lc]
theorem lc_length : ∀ ps : List L, (lc ps).length = ps.length * 4
  | [] => rfl
  | l :: r => by rw [lc_cons]; simp [lc_length r]; omega
theorem lc_append (ps qs : List L) : lc (ps ++ qs) = lc ps ++ lc qs := by simp [lc]
theorem lc_one (ps : List L) : ∀ u ∈ lc ps, u.oneCell' = true := by
  intro u hu
  simp only [lc, List.mem_flatMap] at hu
  obtain ⟨l, _, hu⟩ := hu
  simp only [List.mem_cons, List.not_mem_nil, or_false] at hu
  rcases hu with rfl | rfl | rfl | rfl <;> rfl
theorem lc_get : ∀ {ps : List L} {i : Nat} {l : L}, ps[i]? = some l → (lc ps)[i * 4]? = some (.int .i64 l.op) ∧ (lc ps)[i * 4 + 1]? = some (.int .i64 l.to) ∧ (lc ps)[i * 4 + 2]? = some (.int .i64 l.a) ∧ (lc ps)[i * 4 + 3]? = some (.int .i64 l.b)
  | [], i, l, h => by simp at h
  | x :: q, 0, l, h => by simp at h; subst h; rw [lc_cons]; simp
  | x :: q, i + 1, l, h => by
    have ih := lc_get (ps := q) (i := i) (by simpa using h)
    rw [lc_cons, show (i + 1) * 4 = i * 4 + 4 by omega]
    simpa using ih
theorem lc_inv {ps : List L} {j : Nat} {u : Value} (h : (lc ps)[j]? = some u) : ∃ l, ps[j / 4]? = some l ∧ ((j % 4 = 0 ∧ u = .int .i64 l.op) ∨ (j % 4 = 1 ∧ u = .int .i64 l.to) ∨ (j % 4 = 2 ∧ u = .int .i64 l.a) ∨ (j % 4 = 3 ∧ u = .int .i64 l.b)) := by
  have hj : j < (lc ps).length := (List.getElem?_eq_some_iff.1 h).1
  rw [lc_length] at hj
  obtain ⟨l, hl⟩ := get_of_lt (show j / 4 < ps.length by omega)
  refine ⟨l, hl, ?_⟩
  obtain ⟨h0, h1, h2, h3⟩ := lc_get hl
  have hm : j % 4 = 0 ∨ j % 4 = 1 ∨ j % 4 = 2 ∨ j % 4 = 3 := by omega
  rcases hm with hm | hm | hm | hm
  · rw [show j / 4 * 4 = j by omega, h] at h0; exact .inl ⟨hm, by simpa using h0⟩
  · rw [show j / 4 * 4 + 1 = j by omega, h] at h1; exact .inr (.inl ⟨hm, by simpa using h1⟩)
  · rw [show j / 4 * 4 + 2 = j by omega, h] at h2; exact .inr (.inr (.inl ⟨hm, by simpa using h2⟩))
  · rw [show j / 4 * 4 + 3 = j by omega, h] at h3; exact .inr (.inr (.inr ⟨hm, by simpa using h3⟩))
theorem lc_set : ∀ {ps : List L} {i : Nat} (l : L), i < ps.length → lc (ps.set i l) = ((((lc ps).set (i * 4) (.int .i64 l.op)).set (i * 4 + 1) (.int .i64 l.to)).set (i * 4 + 2) (.int .i64 l.a)).set (i * 4 + 3) (.int .i64 l.b)
  | [], i, l, h => by simp at h
  | x :: q, 0, l, h => by rw [List.set_cons_zero, lc_cons, lc_cons]; rfl
  | x :: q, i + 1, l, h => by
    have ih := lc_set (ps := q) (i := i) l (by simpa using h)
    rw [List.set_cons_succ, lc_cons, lc_cons, ih, show (i + 1) * 4 = i * 4 + 4 by omega]
    rfl

/-- What a slice's address leads to, cell by cell. -/
theorem LinesAt.cells {w : World} {a : Addr} {ps : List L} (h : LinesAt w (some a) ps) : ∀ j u, (lc ps)[j]? = some u → w.cell? (a.add j) = some u := by
  intro j u hu
  obtain ⟨l, hl, hu⟩ := lc_inv hu
  obtain ⟨b, off, e, hlt, hc⟩ := h.resolve_left (by rintro rfl; simp at hl)
  injection e with e
  subst e
  obtain ⟨h0, h1, h2, h3⟩ := hc _ _ hl
  have ea : ∀ n, (⟨b, off, none⟩ : Addr).add n = ⟨b, off + n, none⟩ := fun n => by simp [Addr.add]
  rw [ea]
  rcases hu with ⟨hm, rfl⟩ | ⟨hm, rfl⟩ | ⟨hm, rfl⟩ | ⟨hm, rfl⟩
  · rw [show off + j = off + j / 4 * 4 by omega]; exact h0
  · rw [show off + j = off + j / 4 * 4 + 1 by omega]; exact h1
  · rw [show off + j = off + j / 4 * 4 + 2 by omega]; exact h2
  · rw [show off + j = off + j / 4 * 4 + 3 by omega]; exact h3
theorem IntsAt.cells {w : World} {a : Addr} {zs : List Int} (h : IntsAt w (some a) zs) : ∀ j u, (zs.map (Value.int .i64))[j]? = some u → w.cell? (a.add j) = some u := by
  intro j u hu
  rw [List.getElem?_map, Option.map_eq_some_iff] at hu
  obtain ⟨z, hz, rfl⟩ := hu
  obtain ⟨b, off, e, hlt, hc⟩ := h.resolve_left (by rintro rfl; simp at hz)
  injection e with e
  subst e
  have ea : (⟨b, off, none⟩ : Addr).add j = ⟨b, off + j, none⟩ := by simp [Addr.add]
  rw [ea]
  exact hc _ _ hz
theorem LinesAt.none {w : World} {ps : List L} (h : LinesAt w none ps) : ps = [] := h.resolve_right (by rintro ⟨b, off, e, _⟩; cases e)
theorem IntsAt.none {w : World} {zs : List Int} (h : IntsAt w none zs) : zs = [] := h.resolve_right (by rintro ⟨b, off, e, _⟩; cases e)

theorem lines_of_own {w : World} {base : Nat} {e : TypeId} {a : Option Addr} {n c : Nat} {ps : List L} (h : w.ownsRow base e 4 (.slice a n c) n (lc ps)) : LinesAt w a ps ∧ ps.length = n := by
  have hl : ps.length = n := by have := h.1; rw [lc_length] at this; omega
  refine ⟨?_, hl⟩
  rcases h.2 with ⟨he, hn⟩ | ⟨g, cap, cur, he, _, hg, _, _, _, hx⟩
  · left; exact List.eq_nil_of_length_eq_zero (by omega)
  · injection he with ha hn hc
    subst ha
    right
    refine ⟨g, 0, rfl, hp_lt hg, fun j l hj => ?_⟩
    have key : ∀ k u, (lc ps)[k]? = some u → w.cell? ⟨g, k, Option.none⟩ = some u := fun k u hk => by
      refine hp_cell hg ?_
      rw [← hx, List.getElem?_take] at hk
      split at hk
      · simpa using hk
      · cases hk
    rw [Nat.zero_add]
    obtain ⟨h0, h1, h2, h3⟩ := lc_get hj
    exact ⟨key _ _ h0, key _ _ h1, key _ _ h2, key _ _ h3⟩

/-- A cell of an owned row is written. -/
theorem own_setCell {w : World} {base g n size c : Nat} {e : TypeId} {xs : List Value} (h : w.ownsRow base e size (.slice (some ⟨g, 0, none⟩) n c) n xs) (j : Nat) (v : Value) :
    (w.setCell ⟨g, j, none⟩ v).ownsRow base e size (.slice (some ⟨g, 0, none⟩) n c) n (xs.set j v) := by
  refine ⟨by rw [List.length_set]; exact h.1, .inr ?_⟩
  rcases h.2 with ⟨he, hn⟩ | ⟨g', cap, cur, he, hb, hg, hn, hm, hs, hx⟩
  · cases he
  · injection he with ha _ hc
    injection ha with ha
    injection ha with ha
    subst ha hc
    refine ⟨g, c, cur.setIfInBounds j v, rfl, hb, hp_put hg j v, hn, hm, by simpa using hs, ?_⟩
    rw [Array.toList_setIfInBounds, List.take_set, hx]
theorem own_free {w : World} {base g n size c : Nat} {e : TypeId} {xs : List Value} (h : w.ownsRow base e size (.slice (some ⟨g, 0, none⟩) n c) n xs) (j : Nat) : w.frozen? ⟨g, j, none⟩ = false := by
  rcases h.2 with ⟨he, hn⟩ | ⟨g', cap, cur, he, hb, hg, hn, hm, hs, hx⟩
  · cases he
  · injection he with ha _ hc
    injection ha with ha
    injection ha with ha
    subst ha
    exact hp_free hg j
theorem own_cell {w : World} {base g n size c : Nat} {e : TypeId} {xs : List Value} (h : w.ownsRow base e size (.slice (some ⟨g, 0, none⟩) n c) n xs) {j : Nat} {v : Value} (hv : xs[j]? = some v) : w.cell? ⟨g, j, none⟩ = some v := by
  rcases h.2 with ⟨he, hn⟩ | ⟨g', cap, cur, he, hb, hg, hn, hm, hs, hx⟩
  · cases he
  · injection he with ha _ hc
    injection ha with ha
    injection ha with ha
    subst ha
    refine hp_cell hg ?_
    rw [← hx, List.getElem?_take] at hv
    split at hv
    · simpa using hv
    · cases hv
theorem own_base' {w : World} {base g n size c : Nat} {e : TypeId} {xs : List Value} (h : w.ownsRow base e size (.slice (some ⟨g, 0, none⟩) n c) n xs) : base ≤ g := own_base h g rfl
theorem own_lt {w : World} {base g n size c : Nat} {e : TypeId} {xs : List Value} (h : w.ownsRow base e size (.slice (some ⟨g, 0, none⟩) n c) n xs) : g < w.heap.size := (h.lt g rfl).2
theorem own_form {w : World} {base size n : Nat} {e : TypeId} {a : Option Addr} {c : Nat} {xs : List Value} (h : w.ownsRow base e size (.slice a n c) n xs) (hn : 0 < n) : ∃ g, a = some ⟨g, 0, none⟩ := by
  rcases h.2 with ⟨he, hn'⟩ | ⟨g', cap, cur, he, _⟩
  · omega
  · injection he with ha _ _; exact ⟨g', ha⟩
theorem own_nil {w : World} {base size n : Nat} {e : TypeId} {a : Option Addr} {c : Nat} {xs : List Value} (h : w.ownsRow base e size (.slice a n c) n xs) : a = none → c = 0 := by
  rintro rfl
  rcases h.2 with ⟨he, hn'⟩ | ⟨g', cap, cur, he, _⟩
  · injection he
  · cases he
/-- A block below stays, whatever is done above. -/
theorem own_below {w w' : World} {base size n B : Nat} {e : TypeId} {v : Value} {xs : List Value} (h : w.ownsRow base e size v n xs) (hb : Below B w w') (hB : w.heap.size ≤ B) : w'.ownsRow base e size v n xs := by
  refine ⟨h.1, ?_⟩
  rcases h.2 with hn | ⟨g, cap, cur, rfl, hbg, hg, rest⟩
  · exact .inl hn
  · exact .inr ⟨g, cap, cur, rfl, hbg, hp_below hg hb (by have := hp_lt hg; omega), rest⟩
/-- The line i of an owned row is written. -/
theorem own_setLine {w : World} {base g n c : Nat} {e : TypeId} {ps : List L} (h : w.ownsRow base e 4 (.slice (some ⟨g, 0, none⟩) n c) n (lc ps)) {i : Nat} (hi : i < ps.length) (l : L) :
    ((((w.setCell ⟨g, i * 4, none⟩ (.int .i64 l.op)).setCell ⟨g, i * 4 + 1, none⟩ (.int .i64 l.to)).setCell ⟨g, i * 4 + 2, none⟩ (.int .i64 l.a)).setCell ⟨g, i * 4 + 3, none⟩ (.int .i64 l.b)).ownsRow base e 4 (.slice (some ⟨g, 0, none⟩) n c) n (lc (ps.set i l)) := by
  rw [lc_set l hi]
  exact own_setCell (own_setCell (own_setCell (own_setCell h _ _) _ _) _ _) _ _
theorem own_there {w : World} {base g n c : Nat} {e : TypeId} {ps : List L} (h : w.ownsRow base e 4 (.slice (some ⟨g, 0, none⟩) n c) n (lc ps)) {i : Nat} (hi : i < ps.length) : w.there g (i * 4) 4 := fun j hj => by
  have hl : i * 4 + j < (lc ps).length := by rw [lc_length]; omega
  obtain ⟨v, hv⟩ := get_of_lt hl
  exact ⟨by rw [own_cell h hv]; rfl, own_free h _⟩

theorem cell_alloc_keep {w : World} {o : Obj} {ad : Addr} {v : Value} (h : w.cell? ad = some v) : (w.alloc o).cell? ad = some v := (((Below.refl w.heap.size w).alloc (Nat.le_refl _) o).cell (p := ad) (World.block_lt_of_cell? w ad h)).trans h
end Go.Proofs.Ytmigkbimdjiigaa
