/- Equal lists of lists; Table of check: contracts. -/
import Derived.Test.YtmigkbimdjiigaaRowsL
import Derived.Test.YtmigkbimdjiigaaSorted
import Derived.Test.YtmigkbimdjiigaaRuns
set_option linter.unusedVariables false
set_option linter.unusedSimpArgs false
namespace Go.Proofs.Ytmigkbimdjiigaa
open Go.RowKit Tinker

/-- Whether lists of lists are equal. -/
def rowsEq : List (List Int) → List (List Int) → Bool
  | [], [] => true
  | x :: r, y :: s => sameI x y && rowsEq r s
  | _, _ => false
theorem rowsEq_self : ∀ fs : List (List Int), rowsEq fs fs = true
  | [] => rfl
  | x :: r => by rw [rowsEq, sameI_self, rowsEq_self r]; rfl
theorem rowsEq_len : ∀ {fs gs : List (List Int)}, rowsEq fs gs = true → fs.length = gs.length
  | [], [], _ => rfl
  | x :: r, y :: s, h => by
    rw [rowsEq, Bool.and_eq_true] at h
    simp [rowsEq_len h.2]
theorem rowsEq_upto : ∀ {fs gs : List (List Int)} {k : Nat} {x y : List Int}, fs[k]? = some x → gs[k]? = some y → sameI x y = false → rowsEq fs gs = false
  | [], _, k, x, y, h, _, _ => by simp at h
  | a :: r, [], k, x, y, _, h, _ => by simp at h
  | a :: r, b :: s, 0, x, y, h1, h2, h3 => by
    simp at h1 h2; subst h1 h2
    rw [rowsEq, h3]; rfl
  | a :: r, b :: s, k + 1, x, y, h1, h2, h3 => by
    rw [rowsEq, rowsEq_upto (k := k) (by simpa using h1) (by simpa using h2) h3, Bool.and_false]
theorem rowsEq_all : ∀ {fs gs : List (List Int)}, fs.length = gs.length → (∀ (k : Nat) (x y : List Int), fs[k]? = some x → gs[k]? = some y → sameI x y = true) → rowsEq fs gs = true
  | [], [], _, _ => rfl
  | x :: r, y :: s, h, hk => by
    rw [rowsEq, hk 0 x y rfl rfl, rowsEq_all (by simpa using h) (fun k a b h1 h2 => hk (k + 1) a b (by simpa using h1) (by simpa using h2))]; rfl
theorem rowsEq_ne {fs gs : List (List Int)} (h : fs.length ≠ gs.length) : rowsEq fs gs = false := by
  cases hr : rowsEq fs gs
  · rfl
  · exact absurd (rowsEq_len hr) h

/-- Lists made. -/
theorem madeCells_one (v : Value) (n : Nat) : madeCells #[v] n = (List.replicate n v).toArray := by
  unfold madeCells
  refine Array.ext (by simp) fun i h1 h2 => ?_
  simp [Nat.mod_one]
theorem mkRows (n : Nat) (hn : n ≤ 1000) (w : World) : (Instr.makeSlice 22 (.int .i64 (n : Int)) (.int .i64 (n : Int))).run Try.prog w = .ok (.slice (some ⟨w.heap.size, 0, none⟩) n n) (w.alloc (.cells (List.replicate n (Value.slice none 0 0)).toArray 23)) := by
  obtain ⟨i0, hi, hz0, hz1, hz2⟩ := info_parts info_ints
  have h := run_make w 22 23 i0 (.slice none 0 0) Try.underlying22 hi hz0 .i64 .i64 n n (by omega) (by omega) (by rw [hz2]; omega) (by omega)
  rw [hz1] at h
  rw [h]
  show Result.ok _ (w.alloc (.cells (madeCells #[Value.slice none 0 0] _) _)) = _
  rw [madeCells_one]
  simp

/-- A block of lists, of which the first are laid. -/
structure TabI (M : Nat) (rs : List (List Int)) (n : Nat) (xs : List Value) (w W : World) : Prop where
  bm : W.heap[M]? = some (.cells xs.toArray 23 (0, 0))
  ln : xs.length = n
  hM : w.heap.size ≤ M
  st : RowC W w.heap.size (some M) rs xs
  below : Below w.heap.size w W
theorem TabI.low {M : Nat} {rs : List (List Int)} {n : Nat} {xs : List Value} {w W W' : World} (h : TabI M rs n xs w W) (hb : Below W.heap.size W W') : TabI M rs n xs w W' :=
  ⟨hp_below h.bm hb (hp_lt h.bm), h.ln, h.hM, h.st.same fun b hlt _ _ => hb.block b hlt, h.below.trans (hb.mono h.below.size)⟩
theorem TabI.cell {M : Nat} {rs : List (List Int)} {n : Nat} {xs : List Value} {w W : World} (h : TabI M rs n xs w W) {k : Nat} (hk : k < n) : ∃ v, W.cell? ⟨M, k, none⟩ = some v := by
  obtain ⟨v, hv⟩ := get_of_lt (show k < xs.length by rw [h.ln]; exact hk)
  exact ⟨v, hp_cell h.bm (by simpa using hv)⟩
theorem TabI.put {M : Nat} {rs : List (List Int)} {n : Nat} {xs : List Value} {w W : World} (h : TabI M rs n xs w W) (hk : rs.length < n) {a : Option Addr} {c : Nat} {zs : List Int} (hz : OwnL W w.heap.size (some M) a zs) :
    TabI M (rs ++ [zs]) n (xs.set rs.length (.slice a zs.length c)) w (W.setCell ⟨M, rs.length, none⟩ (.slice a zs.length c)) := by
  have hl := h.ln
  have hs : ∀ b, b < W.heap.size → w.heap.size ≤ b → some M ≠ some b → (W.setCell ⟨M, rs.length, none⟩ (.slice a zs.length c)).heap[b]? = W.heap[b]? := fun b _ _ hb => Below.heap_setCell W ⟨M, rs.length, none⟩ _ b (fun e => hb (by rw [e]))
  refine ⟨?_, by rw [List.length_set]; exact hl, h.hM, ?_, h.below.setCell (p := ⟨M, _, none⟩) h.hM _⟩
  · have := hp_put h.bm rs.length (.slice a zs.length c)
    rwa [List.setIfInBounds_toArray] at this
  · intro k t hk'
    rcases Nat.lt_or_ge k rs.length with hlt | hge
    · rw [List.getElem?_append_left hlt] at hk'
      obtain ⟨a', c', h1, h2⟩ := h.st k t hk'
      exact ⟨a', c', by rw [List.getElem?_set_ne (by omega)]; exact h1, h2.same hs⟩
    · rw [List.getElem?_append_right hge] at hk'
      have hk0 : k = rs.length := by
        have := (List.getElem?_eq_some_iff.1 hk').1
        simp at this; omega
      subst hk0
      simp at hk'
      subst hk'
      exact ⟨a, c, by rw [List.getElem?_set_self (by omega)], hz.same hs⟩
theorem TabI.at_ {M : Nat} {rs : List (List Int)} {n : Nat} {xs : List Value} {w W : World} (h : TabI M rs n xs w W) : RowsAt W (some ⟨M, 0, none⟩) rs :=
  .inr ⟨M, 0, rfl, hp_lt h.bm, fun j zs hj => by
    obtain ⟨a, c, h1, h2⟩ := h.st j zs hj
    exact ⟨a, c, by rw [Nat.zero_add]; exact hp_cell h.bm (by simpa using h1), h2.at_⟩⟩
theorem tabI_new (w : World) (n : Nat) : TabI w.heap.size [] n (List.replicate n (Value.slice none 0 0)) w (w.alloc (.cells (List.replicate n (Value.slice none 0 0)).toArray 23)) :=
  ⟨hp_new rfl, by simp, Nat.le_refl _, fun k zs h => by simp at h, (Below.refl _ _).alloc (Nat.le_refl _) _⟩
theorem RowI.own {M : Nat} {zs : List Int} {w W : World} (h : RowI M zs w W) (hM : w.heap.size ≤ M) {o : Option Nat} (ho : o ≠ some M) {base : Nat} (hb : base ≤ M) : OwnL W base o (some ⟨M, 0, none⟩) zs :=
  .inr ⟨M, rfl, hb, ho, iv zs, 3, h.bm, fun j n hj => by
    have := iv_getN zs j (List.getElem?_eq_some_iff.1 hj).1
    rwa [getD_of_get hj] at this⟩

/-- What Table answers. -/
def tabL (ps : List L) (ts : List T) : List (List Int) := if vpt ps ts = 0 then ts.map (fun t => rowL ps t.inn) else []
theorem tabL_ok {ps : List L} {ts : List T} (h : vpt ps ts = 0) : tabL ps ts = ts.map (fun t => rowL ps t.inn) := by unfold tabL; rw [if_pos h]
theorem tabL_no {ps : List L} {ts : List T} (h : vpt ps ts ≠ 0) : tabL ps ts = [] := by unfold tabL; rw [if_neg h]
theorem map_take_snoc {α β : Type} (f : α → β) {l : List α} {k : Nat} {x : α} (h : l[k]? = some x) : (l.take (k + 1)).map f = (l.take k).map f ++ [f x] := by
  rw [List.take_add_one, h]; simp

end Go.Proofs.Ytmigkbimdjiigaa
