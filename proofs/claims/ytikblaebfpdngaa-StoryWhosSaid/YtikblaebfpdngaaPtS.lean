/- Several texts in one. -/
import Derived.Test.YtikblaebfpdngaaPtW
import Derived.Test.YtikblaebfpdngaaRowsL
import Derived.Test.YtikblaebfpdngaaEdO
import Derived.Test.YtikblaebfpdngaaRunA
import Derived.Sort.Grow
import Derived.Deep.Draws
import Derived.Shelf.SlSortCmp.Whole1
import Derived.Shelf.SlGeneric
/- Lists of lists of edits in memory. -/
set_option linter.unusedVariables false
set_option linter.unusedSimpArgs false
namespace Go.Proofs.Ytikblaebfpdngaa
open Go.RowKit Tinker

/-- A block holds these edits. -/
def BEdits (W : World) (b : Nat) (zs : List E) : Prop := b < W.heap.size ∧ ∀ j u, (ec zs)[j]? = some u → W.cell? ⟨b, j, none⟩ = some u
theorem BEdits.lt {W : World} {b : Nat} {zs : List E} (h : BEdits W b zs) : b < W.heap.size := h.1
theorem BEdits.same {W W' : World} {b : Nat} {zs : List E} (h : BEdits W b zs) (e : W'.heap[b]? = W.heap[b]?) : BEdits W' b zs := by
  refine ⟨?_, fun j u hu => (cell_heap e j).trans (h.2 j u hu)⟩
  rw [Array.getElem?_eq_getElem h.1] at e
  exact (Array.getElem?_eq_some_iff.1 e).1
theorem BEdits.at_ {W : World} {b : Nat} {zs : List E} (h : BEdits W b zs) : EditsAt W (some ⟨b, 0, none⟩) zs := by
  refine .inr ⟨b, 0, rfl, h.1, fun j e hj => ?_⟩
  obtain ⟨h0, h1, h2, h3, h4⟩ := ec_get hj
  rw [Nat.zero_add]
  exact ⟨h.2 _ _ h0, h.2 _ _ h1, h.2 _ _ h2, h.2 _ _ h3, h.2 _ _ h4⟩
theorem bedits_of_own {W : World} {base g n c : Nat} {e : TypeId} {zs : List E} (h : W.ownsRow base e 5 (.slice (some ⟨g, 0, none⟩) n c) n (ec zs)) : BEdits W g zs := ⟨own_lt h, fun j u hu => own_cell h hu⟩

/-- A slice's address leads to these lists. -/
def RowsEAt (w : World) (g : Option Addr) (fs : List (List E)) : Prop :=
  fs = [] ∨ ∃ b off, g = some ⟨b, off, none⟩ ∧ b < w.heap.size ∧ ∀ j zs, fs[j]? = some zs → ∃ a c, w.cell? ⟨b, off + j, none⟩ = some (.slice a zs.length c) ∧ EditsAt w a zs
theorem RowsEAt.below {w w' : World} {B : Nat} {g : Option Addr} {fs : List (List E)} (h : RowsEAt w g fs) (hb : Below B w w') (hB : w.heap.size ≤ B) : RowsEAt w' g fs := by
  rcases h with h | ⟨b, off, e, hlt, hc⟩
  · exact .inl h
  · refine .inr ⟨b, off, e, Nat.lt_of_lt_of_le hlt hb.size, fun j zs hj => ?_⟩
    obtain ⟨a, c, h0, h1⟩ := hc j zs hj
    exact ⟨a, c, (hb.cell (p := ⟨b, _, none⟩) (by show b < B; omega)).trans h0, h1.below hb hB⟩
theorem RowsEAt.at_ {w : World} {g : Option Addr} {fs : List (List E)} (h : RowsEAt w g fs) {k : Nat} (hk : k < fs.length) : ∃ b off zs a c, g = some ⟨b, off, none⟩ ∧ b < w.heap.size ∧ fs[k]? = some zs ∧ w.cell? ⟨b, off + k, none⟩ = some (.slice a zs.length c) ∧ EditsAt w a zs := by
  obtain ⟨b, off, e, hlb, hc⟩ := h.resolve_left (by rintro rfl; simp at hk)
  obtain ⟨zs, hz⟩ := get_of_lt hk
  obtain ⟨a, c, h0, h1⟩ := hc k zs hz
  exact ⟨b, off, zs, a, c, e, hlb, hz, h0, h1⟩

/-- A list in a block of the call's own, from base on, that is not block o. -/
def OwnE (W : World) (base : Nat) (o : Option Nat) (a : Option Addr) (zs : List E) : Prop := zs = [] ∨ ∃ b, a = some ⟨b, 0, none⟩ ∧ base ≤ b ∧ o ≠ some b ∧ BEdits W b zs
theorem OwnE.at_ {W : World} {base : Nat} {o : Option Nat} {a : Option Addr} {zs : List E} (h : OwnE W base o a zs) : EditsAt W a zs := by
  rcases h with h | ⟨b, rfl, _, _, hb⟩
  · exact .inl h
  · exact hb.at_
theorem OwnE.same {W W' : World} {base : Nat} {o : Option Nat} {a : Option Addr} {zs : List E} (h : OwnE W base o a zs) (e : ∀ b, b < W.heap.size → base ≤ b → o ≠ some b → W'.heap[b]? = W.heap[b]?) : OwnE W' base o a zs := by
  rcases h with h | ⟨b, h1, h2, h3, h4⟩
  · exact .inl h
  · exact .inr ⟨b, h1, h2, h3, h4.same (e b h4.lt h2 h3)⟩
theorem OwnE.low {W W' : World} {base : Nat} {o : Option Nat} {a : Option Addr} {zs : List E} (h : OwnE W base o a zs) (hb : Below W.heap.size W W') : OwnE W' base o a zs := h.same fun b hlt _ _ => hb.block b hlt
theorem OwnE.free {W : World} {base : Nat} {o : Option Nat} {a : Option Addr} {zs : List E} (h : OwnE W base o a zs) {o' : Option Nat} (ho : ∀ b, b < W.heap.size → o ≠ some b → o' ≠ some b) : OwnE W base o' a zs := by
  rcases h with h | ⟨b, h1, h2, h3, h4⟩
  · exact .inl h
  · exact .inr ⟨b, h1, h2, ho b h4.lt h3, h4⟩
theorem OwnE.wide {W : World} {base base' : Nat} {o : Option Nat} {a : Option Addr} {zs : List E} (h : OwnE W base o a zs) (hb : base' ≤ base) : OwnE W base' o a zs := by
  rcases h with h | ⟨b, h1, h2, h3, h4⟩
  · exact .inl h
  · exact .inr ⟨b, h1, by omega, h3, h4⟩
theorem ownE_of {W : World} {base : Nat} {e : TypeId} {a : Option Addr} {n c : Nat} {zs : List E} (h : W.ownsRow base e 5 (.slice a n c) n (ec zs)) : OwnE W base none a zs := by
  rcases Nat.eq_zero_or_pos n with h0 | h0
  · have := (edits_of_own h).2
    exact .inl (List.eq_nil_of_length_eq_zero (by omega))
  · obtain ⟨g, e'⟩ := own_form h h0
    subst e'
    exact .inr ⟨g, rfl, own_base' h, by simp, bedits_of_own h⟩

/-- The cells of lists. -/
def RowCE (W : World) (base : Nat) (o : Option Nat) (fs : List (List E)) (xs : List Value) : Prop :=
  ∀ (k : Nat) (zs : List E), fs[k]? = some zs → ∃ (a : Option Addr) (c : Nat), xs[k]? = some (Value.slice a zs.length c) ∧ OwnE W base o a zs
theorem RowCE.same {W W' : World} {base : Nat} {o : Option Nat} {fs : List (List E)} {xs : List Value} (h : RowCE W base o fs xs) (e : ∀ b, b < W.heap.size → base ≤ b → o ≠ some b → W'.heap[b]? = W.heap[b]?) : RowCE W' base o fs xs :=
  fun k zs hk => by
    obtain ⟨a, c, h1, h2⟩ := h k zs hk
    exact ⟨a, c, h1, h2.same e⟩
/-- An own list of own lists. -/
structure RowsIE (w : World) (v : Value) (fs : List (List E)) (xs : List Value) (W : World) : Prop where
  out : W.ownsRow w.heap.size 46 1 v fs.length xs
  st : RowCE W w.heap.size v.ownBlock fs xs
  below : Below w.heap.size w W
theorem RowsIE.low {w : World} {v : Value} {fs : List (List E)} {xs : List Value} {W W' : World} (h : RowsIE w v fs xs W) (hb : Below W.heap.size W W') : RowsIE w v fs xs W' :=
  ⟨own_below h.out hb (Nat.le_refl _), h.st.same fun b hlt _ _ => hb.block b hlt, h.below.trans (hb.mono h.below.size)⟩
theorem RowsIE.nil {w W : World} (hb : Below w.heap.size w W) : RowsIE w (.slice none 0 0) [] [] W := ⟨World.ownsRow_nil _ _ _ _, fun k zs hk => by simp at hk, hb⟩
theorem RowsIE.push {w : World} {v v' : Value} {fs : List (List E)} {xs : List Value} {W W3 : World} {a : Option Addr} {c : Nat} {zs : List E} (h : RowsIE w v fs xs W) (hz : OwnE W w.heap.size v.ownBlock a zs)
    (hown : W3.ownsRow w.heap.size 46 1 v' (fs.length + 1) (xs ++ [.slice a zs.length c])) (hgrow : W.grownBy W3 v.ownBlock) (hat : v'.ownBlock = v.ownBlock ∨ v'.ownBlock = some W.heap.size) :
    RowsIE w v' (fs ++ [zs]) (xs ++ [.slice a zs.length c]) W3 := by
  have hx : xs.length = fs.length := by simpa using h.out.1
  have hne' : ∀ q, q < W.heap.size → v.ownBlock ≠ some q → v'.ownBlock ≠ some q := fun q hq h1 h2 => by
    rcases hat with e | e
    · exact h1 (e.symm.trans h2)
    · rw [e] at h2; injection h2 with h2; omega
  have hsame : ∀ {a : Option Addr} {zs : List E}, OwnE W w.heap.size v.ownBlock a zs → OwnE W3 w.heap.size v'.ownBlock a zs := fun {a zs} h1 => by
    rcases h1 with h1 | ⟨b, h1, h2, h3, h4⟩
    · exact .inl h1
    · exact .inr ⟨b, h1, h2, hne' b h4.lt h3, h4.same (hgrow.block b h4.lt (fun e => h3 e.symm))⟩
  refine ⟨by simpa using hown, ?_, h.below.grown hgrow h.below.size (fun k hk => by have := (h.out.lt k hk).1; omega)⟩
  intro k t hk
  rcases Nat.lt_or_ge k fs.length with hlt | hge
  · rw [List.getElem?_append_left hlt] at hk
    obtain ⟨a', c', h1, h2⟩ := h.st k t hk
    exact ⟨a', c', by rw [List.getElem?_append_left (by omega)]; exact h1, hsame h2⟩
  · rw [List.getElem?_append_right hge] at hk
    have hk0 : k = fs.length := by
      have := (List.getElem?_eq_some_iff.1 hk).1
      simp at this; omega
    subst hk0
    simp at hk
    subst hk
    exact ⟨a, c, by rw [List.getElem?_append_right (by omega), hx]; simp, hsame hz⟩
theorem RowsIE.at_ {w : World} {a : Option Addr} {n c : Nat} {fs : List (List E)} {xs : List Value} {W : World} (h : RowsIE w (.slice a n c) fs xs W) : RowsEAt W a fs ∧ fs.length = n := by
  have hn : xs.length = n := by
    rcases h.out.2 with ⟨he, hx⟩ | ⟨g, cap, cur, he, _⟩
    · injection he with _ h1 _
      have := h.out.1
      simp at this
      omega
    · injection he with _ h1 _
      have := h.out.1
      simp at this
      omega
  have hl : xs.length = fs.length := by simpa using h.out.1
  refine ⟨?_, by omega⟩
  rcases Nat.eq_zero_or_pos fs.length with h0 | h0
  · exact .inl (List.eq_nil_of_length_eq_zero h0)
  · obtain rfl : fs.length = n := by omega
    obtain ⟨g, hg⟩ := own_form h.out h0
    subst hg
    refine .inr ⟨g, 0, rfl, own_lt h.out, fun j zs hj => ?_⟩
    obtain ⟨a', c', h1, h2⟩ := h.st j zs hj
    exact ⟨a', c', by rw [Nat.zero_add]; exact own_cell h.out h1, h2.at_⟩

/-- Lists in memory, and a code. -/
def GivesRowsEdE (fs : List (List E)) (c : Int) (w : World) (e : Ending) (w' : World) : Prop :=
  ∃ a cap, e = .returned (.tuple #[.slice a fs.length cap, .int .i64 c]) ∧ RowsEAt w' a fs ∧ Below w.heap.size w w'
def GivesRowsEd (fs : List (List E)) (w : World) (e : Ending) (w' : World) : Prop :=
  ∃ a cap, e = .returned (.slice a fs.length cap) ∧ RowsEAt w' a fs ∧ Below w.heap.size w w'
theorem givesRowsEdE_nil {c : Int} {w w' : World} (hB : Below w.heap.size w w') : GivesRowsEdE [] c w (.returned (.tuple #[.slice none 0 0, .int .i64 c])) w' := ⟨none, 0, rfl, .inl rfl, hB⟩
theorem RowsIE.gives {w : World} {v : Value} {fs : List (List E)} {xs : List Value} {W : World} (h : RowsIE w v fs xs W) : GivesRowsEd fs w (.returned v) W := by
  obtain ⟨a, c, rfl⟩ := own_slice h.out
  exact ⟨a, c, rfl, h.at_.1, h.below⟩

theorem info_edits : (Try.prog.info? 46).map (fun i => (i.zero, i.size, i.bytes)) = some (some (.slice none 0 0), 1, 24) := by kernel_rfl

end Go.Proofs.Ytikblaebfpdngaa

/- The order of parts: cmp.Compare, cmp.Or, slices.Compare and the closure of parts: contracts. -/
set_option linter.unusedVariables false
set_option linter.unusedSimpArgs false
namespace Tinker
/-- What cmp.Compare answers. -/
def cmpP (a b : Int) : Int := if a < b then -1 else if b < a then 1 else 0
/-- What slices.Compare answers. -/
def cmL : List Int → List Int → Int
  | [], [] => 0
  | [], _ :: _ => -1
  | _ :: _, [] => 1
  | x :: a, y :: b => if cmpP x y = 0 then cmL a b else cmpP x y
theorem cmpP_lt {a b : Int} : cmpP a b < 0 ↔ a < b := by unfold cmpP; split <;> (try split) <;> omega
theorem cmpP_0 {a b : Int} : cmpP a b = 0 ↔ a = b := by unfold cmpP; split <;> (try split) <;> omega
theorem cmL_bef : ∀ (a b : List Int), decide (cmL a b < 0) = befB a b
  | [], [] => rfl
  | [], _ :: _ => rfl
  | _ :: _, [] => rfl
  | x :: a, y :: b => by
    rw [cmL, befB]
    by_cases h : x = y
    · rw [if_pos (cmpP_0.2 h), if_pos h]; exact cmL_bef a b
    · rw [if_neg (fun e => h (cmpP_0.1 e)), if_neg h]
      rw [Bool.eq_iff_iff]; simp [cmpP_lt]
/-- What the closure of parts answers. -/
def cfE (z y : List E) : Int := fe (cmpP z.length y.length) (cmL (pl z) (pl y))
theorem cfE_bef (z y : List E) : decide (cfE z y < 0) = befE z y := by
  unfold cfE befE fe
  by_cases h : (z.length : Int) = y.length
  · have hl : z.length = y.length := by omega
    rw [if_pos (cmpP_0.2 h), cmL_bef, hl]
    simp
  · have hl : z.length ≠ y.length := by omega
    rw [if_neg (fun e => h (cmpP_0.1 e))]
    rw [Bool.eq_iff_iff]
    simp [cmpP_lt, hl]
theorem cmL_step {xs ys : List Int} {k : Nat} {x y : Int} (hx : xs[k]? = some x) (hy : ys[k]? = some y) : cmL (xs.drop k) (ys.drop k) = if cmpP x y = 0 then cmL (xs.drop (k + 1)) (ys.drop (k + 1)) else cmpP x y := by
  have h1 : xs.drop k = x :: xs.drop (k + 1) := by
    obtain ⟨h, rfl⟩ := List.getElem?_eq_some_iff.1 hx
    exact List.drop_eq_getElem_cons h
  have h2 : ys.drop k = y :: ys.drop (k + 1) := by
    obtain ⟨h, rfl⟩ := List.getElem?_eq_some_iff.1 hy
    exact List.drop_eq_getElem_cons h
  rw [h1, h2, cmL]
end Tinker
namespace Go.Proofs.Ytikblaebfpdngaa
open Go.RowKit Tinker

/-- More draws, new blocks behind: so a world of the sort's. -/
theorem grown_of {w w' : World} (h : Below w.heap.size w w') (hd : w.drawn ≤ w'.drawn) : ∃ q os, w' = Go.Sort.grow (w.drewN q) os := by
  refine ⟨w'.drawn - w.drawn, w'.heap.extract w.heap.size w'.heap.size, ?_⟩
  have hh : w'.heap = w.heap ++ w'.heap.extract w.heap.size w'.heap.size := by
    have hs := h.size
    apply Array.ext_getElem?
    intro i
    by_cases hi : i < w.heap.size
    · rw [h.block i hi, Array.getElem?_append_left hi]
    · rw [Array.getElem?_append_right (by omega), Array.getElem?_extract]
      by_cases hi2 : i < w'.heap.size
      · rw [if_pos (by omega)]; congr 1; omega
      · rw [if_neg (by omega), Array.getElem?_eq_none (by omega)]
  obtain ⟨a1, a2, a3, a4, a5⟩ := w'
  obtain ⟨b1, b2, b3, b4, b5⟩ := w
  have h1 := h.os; have h2 := h.tape; have h3 := h.output
  simp only at h1 h2 h3 hh hd
  subst h1 h2 h3
  simp only [Go.Sort.grow, World.drewN]
  congr 1
  omega

end Go.Proofs.Ytikblaebfpdngaa

/- The sort of parts: where the shelf's contract of slices.SortFunc lies at this program. -/
set_option linter.unusedVariables false
set_option linter.unusedSimpArgs false
namespace Go.Proofs.Ytikblaebfpdngaa
open Go.Shelf
end Go.Proofs.Ytikblaebfpdngaa

/- The sort of parts: contract. -/
set_option linter.unusedVariables false
set_option linter.unusedSimpArgs false
namespace Tinker
theorem befB_neg {x y z : List Int} (h : befB x z = true) : befB x y = true ∨ befB y z = true := by
  by_cases e : x = y
  · subst e; exact .inr h
  · rcases befB_total e with h1 | h1
    · exact .inl h1
    · exact .inr (befB_trans h1 h)
theorem pl_len (z : List E) : (pl z).length = z.length := by unfold pl; rw [List.length_map]
theorem befE_congr {x y z : List E} (h : pl x = pl y) : befE x z = befE y z := by
  have hl : x.length = y.length := by rw [← pl_len x, ← pl_len y, h]
  unfold befE
  rw [h, hl]
theorem befE_neg {x y z : List E} (h : befE x z = true) : befE x y = true ∨ befE y z = true := by
  cases h1 : befE x y
  · right
    cases h2 : befE y x
    · rw [← befE_congr (befE_none h1 h2)]; exact h
    · exact befE_trans h2 h
  · exact .inl rfl
end Tinker
namespace Go.Proofs.Ytikblaebfpdngaa
open Go.RowKit Go.Sort Go.Shelf Tinker

/-- A part in memory, apart from the block g. -/
abbrev PA (W : World) (g : Nat) : Type := { x : Option Addr × Nat × List E // EditsAt W x.1 x.2.2 ∧ x.2.2.length ≤ 4 ∧ ∀ b o, x.1 = some ⟨b, o, none⟩ → x.2.2 = [] ∨ b ≠ g }
instance (W : World) (g : Nat) : Inhabited (PA W g) := ⟨⟨(none, 0, []), .inl rfl, by simp, by simp⟩⟩
def paV {W : World} {g : Nat} (x : PA W g) : Value := .slice x.1.1 x.1.2.2.length x.1.2.1
def paC {W : World} {g : Nat} (x y : PA W g) : Int := cfE x.1.2.2 y.1.2.2
theorem paC_lt {W : World} {g : Nat} (x y : PA W g) : ltOf paC x y = befE x.1.2.2 y.1.2.2 := by unfold ltOf paC; exact cfE_bef _ _
theorem paC_swo {W : World} {g : Nat} : SWO (ltOf (paC (W := W) (g := g))) where
  irrefl x := by rw [paC_lt]; exact befE_irr _
  trans x y z h1 h2 := by rw [paC_lt] at *; exact befE_trans h1 h2
  ntrans x y z h1 h2 := by
    rw [paC_lt] at *
    cases h : befE x.1.2.2 z.1.2.2
    · rfl
    · rcases befE_neg (y := y.1.2.2) h with h3 | h3
      · rw [h1] at h3; cases h3
      · rw [h2] at h3; cases h3

theorem block_sort {α : Type} [Inhabited α] (enc : α → Value) (W : World) (g m : Nat) (dk : Array α) (os : Array Obj) {b : Nat} (hb : b < W.heap.size) (hne : b ≠ g) : (sortWorld enc W g 0 m dk os).heap[b]? = W.heap[b]? := by
  show ((W.heap.modify g _) ++ os)[b]? = _
  rw [Array.getElem?_append_left (by simpa using hb), Array.getElem?_modify, if_neg (fun e => hne e.symm)]
theorem size_sort {α : Type} [Inhabited α] (enc : α → Value) (W : World) (g m : Nat) (dk : Array α) (os : Array Obj) : W.heap.size ≤ (sortWorld enc W g 0 m dk os).heap.size := by
  show _ ≤ ((W.heap.modify g _) ++ os).size
  simp
theorem edits_sort {α : Type} [Inhabited α] (enc : α → Value) {W : World} {g : Nat} (m : Nat) (dk : Array α) (os : Array Obj) {a : Option Addr} {xs : List E} (h : EditsAt W a xs) (hne : ∀ b o, a = some ⟨b, o, none⟩ → xs = [] ∨ b ≠ g) : EditsAt (sortWorld enc W g 0 m dk os) a xs := by
  rcases h with h | ⟨b, off, rfl, hlt, hc⟩
  · exact .inl h
  · rcases hne b off rfl with h0 | hne
    · exact .inl h0
    have hh := block_sort enc W g m dk os hlt hne
    refine .inr ⟨b, off, rfl, Nat.lt_of_lt_of_le hlt (size_sort enc W g m dk os), fun j e hj => ?_⟩
    obtain ⟨h0, h1, h2, h3, h4⟩ := hc j e hj
    exact ⟨(cell_heap hh _).trans h0, (cell_heap hh _).trans h1, (cell_heap hh _).trans h2, (cell_heap hh _).trans h3, (cell_heap hh _).trans h4⟩
end Go.Proofs.Ytikblaebfpdngaa
