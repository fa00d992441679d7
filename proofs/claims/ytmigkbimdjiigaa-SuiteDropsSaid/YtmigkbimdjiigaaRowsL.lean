/- Lists of lists of numbers in memory. -/
import Derived.Test.YtmigkbimdjiigaaChkB
import Derived.Test.YtmigkbimdjiigaaTrB
import Derived.Laws.MakeOwn
set_option linter.unusedVariables false
set_option linter.unusedSimpArgs false
namespace Go.Proofs.Ytmigkbimdjiigaa
open Go.RowKit Tinker

/-- A slice's address leads to these lists. -/
def RowsAt (w : World) (g : Option Addr) (fs : List (List Int)) : Prop :=
  fs = [] ∨ ∃ b off, g = some ⟨b, off, none⟩ ∧ b < w.heap.size ∧ ∀ j zs, fs[j]? = some zs → ∃ a c, w.cell? ⟨b, off + j, none⟩ = some (.slice a zs.length c) ∧ IntsAt w a zs
theorem RowsAt.below {w w' : World} {B : Nat} {g : Option Addr} {fs : List (List Int)} (h : RowsAt w g fs) (hb : Below B w w') (hB : w.heap.size ≤ B) : RowsAt w' g fs := by
  rcases h with h | ⟨b, off, e, hlt, hc⟩
  · exact .inl h
  · refine .inr ⟨b, off, e, Nat.lt_of_lt_of_le hlt hb.size, fun j zs hj => ?_⟩
    obtain ⟨a, c, h0, h1⟩ := hc j zs hj
    exact ⟨a, c, (hb.cell (p := ⟨b, _, none⟩) (by show b < B; omega)).trans h0, h1.below hb hB⟩
theorem RowsAt.at_ {w : World} {g : Option Addr} {fs : List (List Int)} (h : RowsAt w g fs) {k : Nat} (hk : k < fs.length) : ∃ b off zs a c, g = some ⟨b, off, none⟩ ∧ b < w.heap.size ∧ fs[k]? = some zs ∧ w.cell? ⟨b, off + k, none⟩ = some (.slice a zs.length c) ∧ IntsAt w a zs := by
  obtain ⟨b, off, e, hlb, hc⟩ := h.resolve_left (by rintro rfl; simp at hk)
  obtain ⟨zs, hz⟩ := get_of_lt hk
  obtain ⟨a, c, h0, h1⟩ := hc k zs hz
  exact ⟨b, off, zs, a, c, e, hlb, hz, h0, h1⟩

/-- A list in a block of the call's own, from base on, that is not block o. -/
def OwnL (W : World) (base : Nat) (o : Option Nat) (a : Option Addr) (zs : List Int) : Prop := zs = [] ∨ ∃ b, a = some ⟨b, 0, none⟩ ∧ base ≤ b ∧ o ≠ some b ∧ BInts W b zs
theorem OwnL.at_ {W : World} {base : Nat} {o : Option Nat} {a : Option Addr} {zs : List Int} (h : OwnL W base o a zs) : IntsAt W a zs := by
  rcases h with h | ⟨b, rfl, _, _, hb⟩
  · exact .inl h
  · exact hb.at_
theorem OwnL.same {W W' : World} {base : Nat} {o : Option Nat} {a : Option Addr} {zs : List Int} (h : OwnL W base o a zs) (e : ∀ b, b < W.heap.size → base ≤ b → o ≠ some b → W'.heap[b]? = W.heap[b]?) : OwnL W' base o a zs := by
  rcases h with h | ⟨b, h1, h2, h3, h4⟩
  · exact .inl h
  · exact .inr ⟨b, h1, h2, h3, h4.same (e b h4.lt h2 h3)⟩
theorem OwnL.low {W W' : World} {base : Nat} {o : Option Nat} {a : Option Addr} {zs : List Int} (h : OwnL W base o a zs) (hb : Below W.heap.size W W') : OwnL W' base o a zs := h.same fun b hlt _ _ => hb.block b hlt
theorem OwnL.free {W : World} {base : Nat} {o : Option Nat} {a : Option Addr} {zs : List Int} (h : OwnL W base o a zs) {o' : Option Nat} (ho : ∀ b, b < W.heap.size → o ≠ some b → o' ≠ some b) : OwnL W base o' a zs := by
  rcases h with h | ⟨b, h1, h2, h3, h4⟩
  · exact .inl h
  · exact .inr ⟨b, h1, h2, ho b h4.lt h3, h4⟩
theorem OwnL.wide {W : World} {base base' : Nat} {o : Option Nat} {a : Option Addr} {zs : List Int} (h : OwnL W base o a zs) (hb : base' ≤ base) : OwnL W base' o a zs := by
  rcases h with h | ⟨b, h1, h2, h3, h4⟩
  · exact .inl h
  · exact .inr ⟨b, h1, by omega, h3, h4⟩
theorem ownL_of {W : World} {base : Nat} {e : TypeId} {a : Option Addr} {n c : Nat} {zs : List Int} (h : W.ownsRow base e 1 (.slice a n c) n (zs.map (Value.int .i64))) : OwnL W base none a zs := by
  rcases Nat.eq_zero_or_pos n with h0 | h0
  · have := (ints_of_own h).2
    exact .inl (List.eq_nil_of_length_eq_zero (by omega))
  · obtain ⟨g, e'⟩ := own_form h h0
    subst e'
    exact .inr ⟨g, rfl, own_base' h, by simp, bints_of_own h⟩

/-- The cells of lists. -/
def RowC (W : World) (base : Nat) (o : Option Nat) (fs : List (List Int)) (xs : List Value) : Prop :=
  ∀ (k : Nat) (zs : List Int), fs[k]? = some zs → ∃ (a : Option Addr) (c : Nat), xs[k]? = some (Value.slice a zs.length c) ∧ OwnL W base o a zs
theorem RowC.same {W W' : World} {base : Nat} {o : Option Nat} {fs : List (List Int)} {xs : List Value} (h : RowC W base o fs xs) (e : ∀ b, b < W.heap.size → base ≤ b → o ≠ some b → W'.heap[b]? = W.heap[b]?) : RowC W' base o fs xs :=
  fun k zs hk => by
    obtain ⟨a, c, h1, h2⟩ := h k zs hk
    exact ⟨a, c, h1, h2.same e⟩
/-- An own list of own lists. -/
structure RowsI (w : World) (v : Value) (fs : List (List Int)) (xs : List Value) (W : World) : Prop where
  out : W.ownsRow w.heap.size 23 1 v fs.length xs
  st : RowC W w.heap.size v.ownBlock fs xs
  below : Below w.heap.size w W
theorem RowsI.low {w : World} {v : Value} {fs : List (List Int)} {xs : List Value} {W W' : World} (h : RowsI w v fs xs W) (hb : Below W.heap.size W W') : RowsI w v fs xs W' :=
  ⟨own_below h.out hb (Nat.le_refl _), h.st.same fun b hlt _ _ => hb.block b hlt, h.below.trans (hb.mono h.below.size)⟩
theorem RowsI.nil {w W : World} (hb : Below w.heap.size w W) : RowsI w (.slice none 0 0) [] [] W := ⟨World.ownsRow_nil _ _ _ _, fun k zs hk => by simp at hk, hb⟩
theorem RowsI.push {w : World} {v v' : Value} {fs : List (List Int)} {xs : List Value} {W W3 : World} {a : Option Addr} {c : Nat} {zs : List Int} (h : RowsI w v fs xs W) (hz : OwnL W w.heap.size v.ownBlock a zs)
    (hown : W3.ownsRow w.heap.size 23 1 v' (fs.length + 1) (xs ++ [.slice a zs.length c])) (hgrow : W.grownBy W3 v.ownBlock) (hat : v'.ownBlock = v.ownBlock ∨ v'.ownBlock = some W.heap.size) :
    RowsI w v' (fs ++ [zs]) (xs ++ [.slice a zs.length c]) W3 := by
  have hx : xs.length = fs.length := by simpa using h.out.1
  have hne' : ∀ q, q < W.heap.size → v.ownBlock ≠ some q → v'.ownBlock ≠ some q := fun q hq h1 h2 => by
    rcases hat with e | e
    · exact h1 (e.symm.trans h2)
    · rw [e] at h2; injection h2 with h2; omega
  have hsame : ∀ {a : Option Addr} {zs : List Int}, OwnL W w.heap.size v.ownBlock a zs → OwnL W3 w.heap.size v'.ownBlock a zs := fun {a zs} h1 => by
    rcases h1 with h1 | ⟨b, h1, h2, h3, h4⟩
    · exact .inl h1
    · exact .inr ⟨b, h1, h2, hne' b h4.lt h3, h4.same (hgrow.block b h4.lt (fun e => h3 e.symm))⟩
  refine ⟨by simpa using hown, ?_, h.below.grown hgrow h.below.size (fun k hk => by have := (h.out.lt k hk).1; omega)⟩
  intro k t hk
  rcases Nat.lt_or_ge k fs.length with hlt | hge
  · rw [List.getElem?_append_left hlt] at hk
    obtain ⟨a', c', h1, h2⟩ := h.st k t hk
    exact ⟨a', c', by rw [List.getElem?_append_left (by omega)]; exact h1, hsame h2⟩
  · rw [List.getElem?_append_right hge] at hk
    have hk0 : k = fs.length := by
      have := (List.getElem?_eq_some_iff.1 hk).1
      simp at this; omega
    subst hk0
    simp at hk
    subst hk
    exact ⟨a, c, by rw [List.getElem?_append_right (by omega), hx]; simp, hsame hz⟩
theorem RowsI.at_ {w : World} {a : Option Addr} {n c : Nat} {fs : List (List Int)} {xs : List Value} {W : World} (h : RowsI w (.slice a n c) fs xs W) : RowsAt W a fs ∧ fs.length = n := by
  have hn : xs.length = n := by
    rcases h.out.2 with ⟨he, hx⟩ | ⟨g, cap, cur, he, _⟩
    · injection he with _ h1 _
      have := h.out.1
      simp at this
      omega
    · injection he with _ h1 _
      have := h.out.1
      simp at this
      omega
  have hl : xs.length = fs.length := by simpa using h.out.1
  refine ⟨?_, by omega⟩
  rcases Nat.eq_zero_or_pos fs.length with h0 | h0
  · exact .inl (List.eq_nil_of_length_eq_zero h0)
  · obtain rfl : fs.length = n := by omega
    obtain ⟨g, hg⟩ := own_form h.out h0
    subst hg
    refine .inr ⟨g, 0, rfl, own_lt h.out, fun j zs hj => ?_⟩
    obtain ⟨a', c', h1, h2⟩ := h.st j zs hj
    exact ⟨a', c', by rw [Nat.zero_add]; exact own_cell h.out h1, h2.at_⟩

/-- Lists in memory, and a code. -/
def GivesRowsE (fs : List (List Int)) (c : Int) (w : World) (e : Ending) (w' : World) : Prop :=
  ∃ a cap, e = .returned (.tuple #[.slice a fs.length cap, .int .i64 c]) ∧ RowsAt w' a fs ∧ Below w.heap.size w w'
def GivesRows (fs : List (List Int)) (w : World) (e : Ending) (w' : World) : Prop :=
  ∃ a cap, e = .returned (.slice a fs.length cap) ∧ RowsAt w' a fs ∧ Below w.heap.size w w'
theorem givesRowsE_nil {c : Int} {w w' : World} (hB : Below w.heap.size w w') : GivesRowsE [] c w (.returned (.tuple #[.slice none 0 0, .int .i64 c])) w' := ⟨none, 0, rfl, .inl rfl, hB⟩
theorem RowsI.gives {w : World} {v : Value} {fs : List (List Int)} {xs : List Value} {W : World} (h : RowsI w v fs xs W) : GivesRows fs w (.returned v) W := by
  obtain ⟨a, c, rfl⟩ := own_slice h.out
  exact ⟨a, c, rfl, h.at_.1, h.below⟩

theorem info_ints : (Try.prog.info? 23).map (fun i => (i.zero, i.size, i.bytes)) = some (some (.slice none 0 0), 1, 24) := by kernel_rfl

end Go.Proofs.Ytmigkbimdjiigaa
