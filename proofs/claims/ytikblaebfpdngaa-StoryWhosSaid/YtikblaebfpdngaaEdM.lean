/- Several texts in one. -/
import Derived.Test.YtikblaebfpdngaaPutB
import Derived.Test.YtikblaebfpdngaaMsk
import Derived.Test.YtikblaebfpdngaaChkA
/- Lists of edits in memory. -/
set_option linter.unusedVariables false
set_option linter.unusedSimpArgs false
namespace Tinker
/-- An edit. -/
structure E where
  at_ : Int
  ln : L
end Tinker
namespace Go.Proofs.Ytikblaebfpdngaa
open Go.RowKit Tinker

/-- A slice's address leads to these edits. -/
def EditsAt (w : World) (a : Option Addr) (xs : List E) : Prop :=
  xs = [] ∨ ∃ b off, a = some ⟨b, off, none⟩ ∧ b < w.heap.size ∧ ∀ j e, xs[j]? = some e →
    w.cell? ⟨b, off + j * 5, none⟩ = some (.int .i64 e.at_) ∧ w.cell? ⟨b, off + j * 5 + 1, none⟩ = some (.int .i64 e.ln.op) ∧ w.cell? ⟨b, off + j * 5 + 2, none⟩ = some (.int .i64 e.ln.to) ∧
    w.cell? ⟨b, off + j * 5 + 3, none⟩ = some (.int .i64 e.ln.a) ∧ w.cell? ⟨b, off + j * 5 + 4, none⟩ = some (.int .i64 e.ln.b)
theorem EditsAt.below {w w' : World} {B : Nat} {a : Option Addr} {xs : List E} (h : EditsAt w a xs) (hb : Below B w w') (hB : w.heap.size ≤ B) : EditsAt w' a xs := by
  rcases h with h | ⟨b, off, e, hlt, hc⟩
  · exact .inl h
  · refine .inr ⟨b, off, e, Nat.lt_of_lt_of_le hlt hb.size, fun j l hj => ?_⟩
    obtain ⟨h0, h1, h2, h3, h4⟩ := hc j l hj
    exact ⟨(hb.cell (p := ⟨b, _, none⟩) (by show b < B; omega)).trans h0, (hb.cell (p := ⟨b, _, none⟩) (by show b < B; omega)).trans h1, (hb.cell (p := ⟨b, _, none⟩) (by show b < B; omega)).trans h2, (hb.cell (p := ⟨b, _, none⟩) (by show b < B; omega)).trans h3, (hb.cell (p := ⟨b, _, none⟩) (by show b < B; omega)).trans h4⟩
theorem EditsAt.at_ {w : World} {a : Option Addr} {xs : List E} (h : EditsAt w a xs) {k : Nat} (hk : k < xs.length) : ∃ b off e, a = some ⟨b, off, none⟩ ∧ b < w.heap.size ∧ xs[k]? = some e ∧
    w.cell? ⟨b, off + k * 5, none⟩ = some (.int .i64 e.at_) ∧ w.cell? ⟨b, off + k * 5 + 1, none⟩ = some (.int .i64 e.ln.op) ∧ w.cell? ⟨b, off + k * 5 + 2, none⟩ = some (.int .i64 e.ln.to) ∧
    w.cell? ⟨b, off + k * 5 + 3, none⟩ = some (.int .i64 e.ln.a) ∧ w.cell? ⟨b, off + k * 5 + 4, none⟩ = some (.int .i64 e.ln.b) := by
  obtain ⟨b, off, e, hlb, hc⟩ := h.resolve_left (by rintro rfl; simp at hk)
  obtain ⟨n, hn⟩ := get_of_lt hk
  exact ⟨b, off, n, e, hlb, hn, hc k n hn⟩

/-- The cells of a list of edits. -/
def ec (xs : List E) : List Value := xs.flatMap fun e => [.int .i64 e.at_, .int .i64 e.ln.op, .int .i64 e.ln.to, .int .i64 e.ln.a, .int .i64 e.ln.b]
theorem ec_cons (e : E) (xs : List E) : ec (e :: xs) = .int .i64 e.at_ :: .int .i64 e.ln.op :: .int .i64 e.ln.to :: .int .i64 e.ln.a :: .int .i64 e.ln.b :: ec xs := by simp [ec]
theorem ec_length : ∀ xs : List E, (ec xs).length = xs.length * 5
  | [] => rfl
  | l :: r => by rw [ec_cons]; simp [ec_length r]; omega
theorem ec_append (ps qs : List E) : ec (ps ++ qs) = ec ps ++ ec qs := by simp [ec]
theorem ec_one (ps : List E) : ∀ u ∈ ec ps, u.oneCell' = true := by
  intro u hu
  simp only [ec, List.mem_flatMap] at hu
  obtain ⟨l, _, hu⟩ := hu
  simp only [List.mem_cons, List.not_mem_nil, or_false] at hu
  rcases hu with rfl | rfl | rfl | rfl | rfl <;> rfl
theorem ec_get : ∀ {ps : List E} {i : Nat} {l : E}, ps[i]? = some l → (ec ps)[i * 5]? = some (.int .i64 l.at_) ∧ (ec ps)[i * 5 + 1]? = some (.int .i64 l.ln.op) ∧ (ec ps)[i * 5 + 2]? = some (.int .i64 l.ln.to) ∧ (ec ps)[i * 5 + 3]? = some (.int .i64 l.ln.a) ∧ (ec ps)[i * 5 + 4]? = some (.int .i64 l.ln.b)
  | [], i, l, h => by simp at h
  | x :: q, 0, l, h => by simp at h; subst h; rw [ec_cons]; simp
  | x :: q, i + 1, l, h => by
    have ih := ec_get (ps := q) (i := i) (by simpa using h)
    rw [ec_cons, show (i + 1) * 5 = i * 5 + 5 by omega]
    simpa using ih
theorem ec_inv {ps : List E} {j : Nat} {u : Value} (h : (ec ps)[j]? = some u) : ∃ l, ps[j / 5]? = some l ∧ ((j % 5 = 0 ∧ u = .int .i64 l.at_) ∨ (j % 5 = 1 ∧ u = .int .i64 l.ln.op) ∨ (j % 5 = 2 ∧ u = .int .i64 l.ln.to) ∨ (j % 5 = 3 ∧ u = .int .i64 l.ln.a) ∨ (j % 5 = 4 ∧ u = .int .i64 l.ln.b)) := by
  have hj : j < (ec ps).length := (List.getElem?_eq_some_iff.1 h).1
  rw [ec_length] at hj
  obtain ⟨l, hl⟩ := get_of_lt (show j / 5 < ps.length by omega)
  refine ⟨l, hl, ?_⟩
  obtain ⟨h0, h1, h2, h3, h4⟩ := ec_get hl
  have hm : j % 5 = 0 ∨ j % 5 = 1 ∨ j % 5 = 2 ∨ j % 5 = 3 ∨ j % 5 = 4 := by omega
  rcases hm with hm | hm | hm | hm | hm
  · rw [show j / 5 * 5 = j by omega, h] at h0; exact .inl ⟨hm, by simpa using h0⟩
  · rw [show j / 5 * 5 + 1 = j by omega, h] at h1; exact .inr (.inl ⟨hm, by simpa using h1⟩)
  · rw [show j / 5 * 5 + 2 = j by omega, h] at h2; exact .inr (.inr (.inl ⟨hm, by simpa using h2⟩))
  · rw [show j / 5 * 5 + 3 = j by omega, h] at h3; exact .inr (.inr (.inr (.inl ⟨hm, by simpa using h3⟩)))
  · rw [show j / 5 * 5 + 4 = j by omega, h] at h4; exact .inr (.inr (.inr (.inr ⟨hm, by simpa using h4⟩)))
theorem EditsAt.cells {w : World} {a : Addr} {ps : List E} (h : EditsAt w (some a) ps) : ∀ j u, (ec ps)[j]? = some u → w.cell? (a.add j) = some u := by
  intro j u hu
  obtain ⟨l, hl, hu⟩ := ec_inv hu
  obtain ⟨b, off, e, hlt, hc⟩ := h.resolve_left (by rintro rfl; simp at hl)
  injection e with e
  subst e
  obtain ⟨h0, h1, h2, h3, h4⟩ := hc _ _ hl
  have ea : ∀ n, (⟨b, off, none⟩ : Addr).add n = ⟨b, off + n, none⟩ := fun n => by simp [Addr.add]
  rw [ea]
  rcases hu with ⟨hm, rfl⟩ | ⟨hm, rfl⟩ | ⟨hm, rfl⟩ | ⟨hm, rfl⟩ | ⟨hm, rfl⟩
  · rw [show off + j = off + j / 5 * 5 by omega]; exact h0
  · rw [show off + j = off + j / 5 * 5 + 1 by omega]; exact h1
  · rw [show off + j = off + j / 5 * 5 + 2 by omega]; exact h2
  · rw [show off + j = off + j / 5 * 5 + 3 by omega]; exact h3
  · rw [show off + j = off + j / 5 * 5 + 4 by omega]; exact h4
theorem EditsAt.none {w : World} {xs : List E} (h : EditsAt w none xs) : xs = [] := h.resolve_right (by rintro ⟨b, off, e, _⟩; cases e)
theorem edits_of_own {w : World} {base : Nat} {e : TypeId} {a : Option Addr} {n c : Nat} {ps : List E} (h : w.ownsRow base e 5 (.slice a n c) n (ec ps)) : EditsAt w a ps ∧ ps.length = n := by
  have hl : ps.length = n := by have := h.1; rw [ec_length] at this; omega
  refine ⟨?_, hl⟩
  rcases h.2 with ⟨he, hn⟩ | ⟨g, cap, cur, he, _, hg, _, _, _, hx⟩
  · left; exact List.eq_nil_of_length_eq_zero (by omega)
  · injection he with ha hn hc
    subst ha
    right
    refine ⟨g, 0, rfl, hp_lt hg, fun j l hj => ?_⟩
    have key : ∀ k u, (ec ps)[k]? = some u → w.cell? ⟨g, k, Option.none⟩ = some u := fun k u hk => by
      refine hp_cell hg ?_
      rw [← hx, List.getElem?_take] at hk
      split at hk
      · simpa using hk
      · cases hk
    rw [Nat.zero_add]
    obtain ⟨h0, h1, h2, h3, h4⟩ := ec_get hj
    exact ⟨key _ _ h0, key _ _ h1, key _ _ h2, key _ _ h3, key _ _ h4⟩

/-- A new slice of edits. -/
def GivesEdits (ps : List E) (w : World) (e : Ending) (w' : World) : Prop :=
  ∃ a c, e = .returned (.slice a ps.length c) ∧ w'.ownsRow w.heap.size 50 5 (.slice a ps.length c) ps.length (ec ps) ∧ Below w.heap.size w w'
theorem givesEdits_of {w w1 : World} {v : Value} {ps : List E} {n : Nat} (hn : ps.length = n) (h : w1.ownsRow w.heap.size 50 5 v n (ec ps)) (hB : Below w.heap.size w w1) : GivesEdits ps w (.returned v) w1 := by
  subst hn
  obtain ⟨a, c, rfl⟩ := own_slice h
  exact ⟨a, c, rfl, h, hB⟩
/-- A new slice of edits, and a code. -/
def GivesEditsE (ps : List E) (c : Int) (w : World) (e : Ending) (w' : World) : Prop :=
  ∃ a cap, e = .returned (.tuple #[.slice a ps.length cap, .int .i64 c]) ∧ w'.ownsRow w.heap.size 50 5 (.slice a ps.length cap) ps.length (ec ps) ∧ Below w.heap.size w w'
theorem givesEditsE_nil {c : Int} {w w' : World} (hB : Below w.heap.size w w') : GivesEditsE [] c w (.returned (.tuple #[.slice none 0 0, .int .i64 c])) w' := ⟨none, 0, rfl, World.ownsRow_nil _ _ _ _, hB⟩
theorem GivesEdits.wide {ps : List E} {w w0 : World} {e : Ending} {w' : World} (h : GivesEdits ps w e w') (hB : Below w0.heap.size w0 w) : GivesEdits ps w0 e w' := by
  obtain ⟨a, c, he, ho, hb⟩ := h
  exact ⟨a, c, he, own_mono ho hB.size, hB.trans (hb.mono hB.size)⟩
theorem info_edit : (Try.prog.info? 50).map (fun i => (i.zero, i.size, i.bytes)) = some (some (.agg #[.int .i64 0, .int .i64 0, .int .i64 0, .int .i64 0, .int .i64 0]), 5, 40) := by kernel_rfl

end Go.Proofs.Ytikblaebfpdngaa

/- Plain mathematics: patches. -/
set_option linter.unusedVariables false
set_option linter.unusedSimpArgs false
namespace Tinker

/-- The places of a patch. -/
def pl (xs : List E) : List Int := xs.map E.at_
/-- What Validate answers. -/
def vx (xs : List E) : Int := if 4 < xs.length then 3 else if isSetB (pl xs) && xs.all (fun e => btw e.at_ 0 7 && isLn e.ln) then 0 else 1
theorem vx_large {xs : List E} (h : 4 < xs.length) : vx xs = 3 := by unfold vx; rw [if_pos h]
theorem vx_ok {xs : List E} (h : vx xs = 0) : xs.length ≤ 4 ∧ isSetB (pl xs) = true ∧ ∀ e ∈ xs, (0 ≤ e.at_ ∧ e.at_ ≤ 7) ∧ isLn e.ln = true := by
  unfold vx at h
  split at h
  · cases h
  · split at h
    · rename_i h1 h2
      rw [Bool.and_eq_true] at h2
      refine ⟨by omega, h2.1, fun e he => ?_⟩
      have := List.all_eq_true.1 h2.2 e he
      rw [Bool.and_eq_true] at this
      exact ⟨btw_true.1 this.1, this.2⟩
    · cases h
theorem vx_0 {xs : List E} (h1 : xs.length ≤ 4) (h2 : isSetB (pl xs) = true) (h3 : ∀ e ∈ xs, (btw e.at_ 0 7 && isLn e.ln) = true) : vx xs = 0 := by
  unfold vx
  rw [if_neg (by omega), if_pos]
  rw [Bool.and_eq_true]
  exact ⟨h2, List.all_eq_true.2 h3⟩
theorem vx_1 {xs : List E} (h1 : xs.length ≤ 4) (h2 : (isSetB (pl xs) && xs.all (fun e => btw e.at_ 0 7 && isLn e.ln)) = false) : vx xs = 1 := by
  unfold vx
  rw [if_neg (by omega), if_neg (by simp [h2])]
theorem vx_cases (xs : List E) : vx xs = 0 ∨ vx xs = 1 ∨ vx xs = 3 := by unfold vx; split <;> (try split) <;> simp
/-- The errors of a program, a patch and tests; c is the code of the tests. -/
def vpx (ps : List L) (xs : List E) (c : Int) : Int := if fe (fe (vp ps) (vx xs)) c = 0 then (if allBtw (pl xs) 0 ((ps.length : Int) - 1) then 0 else 4) else fe (fe (vp ps) (vx xs)) c
theorem fe_0 {a b : Int} (h : fe a b = 0) : a = 0 ∧ b = 0 := by
  unfold fe at h
  split at h
  · rename_i h0; exact ⟨h0, h⟩
  · rename_i h0; exact absurd h h0
theorem vpx_ok {ps : List L} {xs : List E} {c : Int} (h : vpx ps xs c = 0) : vp ps = 0 ∧ vx xs = 0 ∧ c = 0 ∧ ∀ e ∈ xs, e.at_.toNat < ps.length := by
  unfold vpx at h
  split at h
  · rename_i h0
    obtain ⟨h1, h2⟩ := fe_0 h0
    obtain ⟨h3, h4⟩ := fe_0 h1
    refine ⟨h3, h4, h2, fun e he => ?_⟩
    split at h
    · rename_i h5
      have := btw_true.1 (List.all_eq_true.1 h5 e.at_ (List.mem_map.2 ⟨e, he, rfl⟩))
      omega
    · cases h
  · rename_i h0; exact absurd h h0
/-- The program after a patch. -/
def doL (ps : List L) (xs : List E) : List L := xs.foldl (fun p e => p.set e.at_.toNat e.ln) ps
theorem doL_cons (ps : List L) (e : E) (xs : List E) : doL ps (e :: xs) = doL (ps.set e.at_.toNat e.ln) xs := rfl
theorem doL_snoc (ps : List L) (e : E) (xs : List E) : doL ps (xs ++ [e]) = (doL ps xs).set e.at_.toNat e.ln := by unfold doL; rw [List.foldl_append]; rfl
theorem doL_len : ∀ (xs : List E) (ps : List L), (doL ps xs).length = ps.length
  | [], _ => rfl
  | e :: xs, ps => by rw [doL_cons, doL_len xs, List.length_set]
def doP (ps : List L) (xs : List E) : List L := if vpx ps xs 0 = 0 then doL ps xs else []
/-- The line of a patch at a place. -/
def atX (xs : List E) (i : Int) : Option L := (xs.find? fun e => e.at_ == i).map E.ln
theorem atX_cons (e : E) (xs : List E) (i : Int) : atX (e :: xs) i = if e.at_ = i then some e.ln else atX xs i := by
  unfold atX
  rw [List.find?_cons]
  by_cases h : e.at_ = i
  · rw [if_pos h]; subst h; simp
  · rw [if_neg h, show (e.at_ == i) = false by simpa using h]
theorem atX_none {xs : List E} {i : Int} (h : ∀ e ∈ xs, e.at_ ≠ i) : atX xs i = none := by
  unfold atX
  rw [List.find?_eq_none.2 (fun e he => by simpa using h e he)]
  rfl
theorem atX_some {xs : List E} {i : Int} {l : L} (h : atX xs i = some l) : ∃ e ∈ xs, e.at_ = i ∧ e.ln = l := by
  unfold atX at h
  rw [Option.map_eq_some_iff] at h
  obtain ⟨e, he, rfl⟩ := h
  exact ⟨e, List.mem_of_find?_eq_some he, by simpa using List.find?_some he, rfl⟩
/-- Places each once. -/
def dist (xs : List E) : Prop := xs.Pairwise fun a b => a.at_ < b.at_
theorem dist_of {xs : List E} (h : isSetB (pl xs) = true) : dist xs := by
  have := isSetB_pair h
  unfold pl at this
  rwa [List.pairwise_map] at this
theorem pair_set : ∀ {l : List Int}, l.Pairwise (· < ·) → isSetB l = true
  | [], _ => rfl
  | [_], _ => rfl
  | x :: y :: r, h => by
    rw [isSetB, Bool.and_eq_true]
    have h1 := List.pairwise_cons.1 h
    exact ⟨decide_eq_true (h1.1 y (by simp)), pair_set h1.2⟩
theorem set_of {xs : List E} (h : dist xs) : isSetB (pl xs) = true := pair_set (by unfold pl; rw [List.pairwise_map]; exact h)
theorem atX_mem {xs : List E} (hd : dist xs) {e : E} (he : e ∈ xs) : atX xs e.at_ = some e.ln := by
  induction xs with
  | nil => cases he
  | cons x r ih =>
    rw [atX_cons]
    obtain ⟨h1, h2⟩ := List.pairwise_cons.1 hd
    rcases List.mem_cons.1 he with rfl | h
    · rw [if_pos rfl]
    · have := h1 e h
      rw [if_neg (by omega)]
      exact ih h2 h
/-- What a line becomes. -/
theorem doL_get : ∀ (xs : List E) (ps : List L) (i : Nat), dist xs → (∀ e ∈ xs, 0 ≤ e.at_) → i < ps.length → (doL ps xs)[i]? = some ((atX xs i).getD (ps.getD i ⟨0, 0, 0, 0⟩))
  | [], ps, i, _, _, h => by
    obtain ⟨l, hl⟩ := get_of_lt h
    show ps[i]? = some (ps.getD i _)
    rw [hl, getD_of_get hl]
  | e :: xs, ps, i, hd, h0, h => by
    obtain ⟨h1, h2⟩ := List.pairwise_cons.1 hd
    rw [doL_cons, doL_get xs _ i h2 (fun e he => h0 e (List.mem_cons_of_mem _ he)) (by rw [List.length_set]; exact h), atX_cons]
    have e0 := h0 e (by simp)
    by_cases hi : e.at_ = i
    · rw [if_pos hi, atX_none (fun x hx => by have := h1 x hx; omega)]
      have : e.at_.toNat = i := by omega
      rw [this]
      show some ((ps.set i e.ln).getD i _) = some e.ln
      rw [getD_of_get (List.getElem?_set_self h)]
    · rw [if_neg hi]
      have : e.at_.toNat ≠ i := by omega
      obtain ⟨l, hl⟩ := get_of_lt h
      rw [getD_of_get (List.getElem?_set_ne this |>.trans hl), getD_of_get hl]
theorem lines_ext {ps qs : List L} (hl : ps.length = qs.length) (h : ∀ i, i < ps.length → ps[i]? = qs[i]?) : ps = qs := by
  apply List.ext_getElem?
  intro i
  by_cases hi : i < ps.length
  · exact h i hi
  · rw [List.getElem?_eq_none (by omega), List.getElem?_eq_none (by omega)]
/-- The patch that puts lines back. -/
def invL (ps : List L) (xs : List E) : List E := xs.map fun e => ⟨e.at_, ps.getD e.at_.toNat ⟨0, 0, 0, 0⟩⟩
theorem inv_pl (ps : List L) (xs : List E) : pl (invL ps xs) = pl xs := by unfold pl invL; rw [List.map_map]; rfl
theorem inv_atX (ps : List L) : ∀ (xs : List E) (i : Int), atX (invL ps xs) i = (atX xs i).map fun _ => ps.getD i.toNat ⟨0, 0, 0, 0⟩
  | [], i => rfl
  | e :: xs, i => by
    show atX (⟨e.at_, _⟩ :: invL ps xs) i = _
    rw [atX_cons, atX_cons, inv_atX ps xs i]
    by_cases h : e.at_ = i
    · rw [if_pos h, if_pos h, h]; rfl
    · rw [if_neg h, if_neg h]
theorem inv_dist {ps : List L} {xs : List E} (h : dist xs) : dist (invL ps xs) := dist_of (by rw [inv_pl]; exact set_of h)
theorem do_inv {ps : List L} {xs : List E} (hd : dist xs) (h0 : ∀ e ∈ xs, 0 ≤ e.at_) : doL (doL ps xs) (invL ps xs) = ps := by
  have h0' : ∀ e ∈ invL ps xs, 0 ≤ e.at_ := by
    intro e he
    obtain ⟨x, hx, rfl⟩ := List.mem_map.1 he
    exact h0 x hx
  refine lines_ext (by rw [doL_len, doL_len]) fun i hi => ?_
  have hi2 : i < ps.length := by rw [doL_len, doL_len] at hi; exact hi
  rw [doL_get _ _ i (inv_dist hd) h0' (by rw [doL_len]; exact hi2), inv_atX, getD_of_get (doL_get xs ps i hd h0 hi2)]
  obtain ⟨l, hl⟩ := get_of_lt hi2
  rw [hl, Int.toNat_natCast, getD_of_get hl]
  cases atX xs i <;> rfl
theorem inv_inv {ps : List L} {xs : List E} (hd : dist xs) (h0 : ∀ e ∈ xs, 0 ≤ e.at_) (hl : ∀ e ∈ xs, e.at_.toNat < ps.length) : invL (doL ps xs) (invL ps xs) = xs := by
  unfold invL
  rw [List.map_map]
  refine (List.map_congr_left (g := id) fun e he => ?_).trans (List.map_id _)
  have h1 := h0 e he
  have h := doL_get xs ps e.at_.toNat hd h0 (hl e he)
  rw [show ((e.at_.toNat : Nat) : Int) = e.at_ by omega, atX_mem hd he] at h
  show (⟨e.at_, (doL ps xs).getD e.at_.toNat _⟩ : E) = e
  rw [getD_of_get h]
  rfl

end Tinker
