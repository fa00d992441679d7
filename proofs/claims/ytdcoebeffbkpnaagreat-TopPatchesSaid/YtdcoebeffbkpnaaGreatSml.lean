/- Several texts in one. -/
import Derived.Test.YtdcoebeffbkpnaaGreatPtD
import Derived.Laws.AppendOwnNone
import Derived.Test.YtdcoebeffbkpnaaGreatFxW
import Derived.Test.YtdcoebeffbkpnaaGreatMsk
/- All parts of a patch, the document's side. -/
set_option linter.unusedVariables false
set_option linter.unusedSimpArgs false
namespace Go.Proofs.YtdcoebeffbkpnaaGreat
open Go.RowKit Tinker

theorem wp_append_none {w : World} {o : Oper} {a : Act} {K : Act → World → Prop} {Q : Exit → Act → World → Prop} (s x : Operand) (t : TypeId)
    (ho : o.op = .call { callee := .builtin .append, args := #[s, x], argTypes := #[t, t] })
    (base : Nat) (e : TypeId) (i : TypeInfo) (size : Nat) (ht : Tryz.prog.underlying t = some (.slice e)) (hi : Tryz.prog.info? e = some i)
    (v : Value) (n : Nat) (xs : List Value) (hs : a.eval s = v) (hown : w.ownsRow base e size v n xs) (hx : a.eval x = .slice none 0 0)
    (h : K (a.put o.dst v) w) : o.wp Tryz.prog a w K Q := by
  have hrun := run_append_owned_none (P := Tryz.prog) (w := w) base t o.type e i size ht hi v n xs hown
  unfold Oper.wp
  simp [execOp, ho, resolve, invoke, builtin, hs, hx, hrun, Result.andThen]
  exact h
/-- A nil list has no room. -/
def NilZ (xs : List Value) : Prop := ∀ (k n c : Nat), xs[k]? = some (.slice none n c) → c = 0
theorem NilZ.push {xs : List Value} {g n c : Nat} (h : NilZ xs) : NilZ (xs ++ [.slice (some ⟨g, 0, none⟩) n c]) := fun k n' c' hk => by
  by_cases hl : k < xs.length
  · rw [List.getElem?_append_left hl] at hk
    exact h k n' c' hk
  · rw [List.getElem?_append_right (by omega)] at hk
    have h1 := List.mem_of_getElem? hk
    simp at h1
theorem cells_keepR {W W' : World} {b : Nat} {xs : List Value} (h : ∀ j u, xs[j]? = some u → W.cell? ((⟨b, 0, none⟩ : Addr).add j) = some u) (hb : b < W.heap.size) (hB : Below W.heap.size W W') : ∀ j u, xs[j]? = some u → W'.cell? ((⟨b, 0, none⟩ : Addr).add j) = some u := fun j u hu => by
  have e : (⟨b, 0, none⟩ : Addr).add j = ⟨b, j, none⟩ := by simp [Addr.add]; exact fun h => h.symm
  have h1 := h j u hu
  rw [e] at h1 ⊢
  exact (hB.cell (p := ⟨b, j, none⟩) hb).trans h1
theorem cells_growR {W W' : World} {b : Nat} {xs : List Value} {row : Option Nat} (h : ∀ j u, xs[j]? = some u → W.cell? ((⟨b, 0, none⟩ : Addr).add j) = some u) (hb : b < W.heap.size) (hg : W.grownBy W' row) (hne : some b ≠ row) : ∀ j u, xs[j]? = some u → W'.cell? ((⟨b, 0, none⟩ : Addr).add j) = some u := fun j u hu => by
  have e : (⟨b, 0, none⟩ : Addr).add j = ⟨b, j, none⟩ := by simp [Addr.add]; exact fun h => h.symm
  have h1 := h j u hu
  rw [e] at h1 ⊢
  exact (cell_heap (hg.block b hb hne) j).trans h1
/-- What a round reads: the cell of the part, the cells of the edit. -/
def RpS (g m b off k : Nat) (v : Value) (e : E) (W : World) : Prop := W.cell? ⟨g, m, none⟩ = some v ∧ W.cell? ⟨b, off + k * 5, none⟩ = some (.int .i64 e.at_) ∧ W.cell? ⟨b, off + k * 5 + 1, none⟩ = some (.int .i64 e.ln.op) ∧ W.cell? ⟨b, off + k * 5 + 2, none⟩ = some (.int .i64 e.ln.to) ∧ W.cell? ⟨b, off + k * 5 + 3, none⟩ = some (.int .i64 e.ln.a) ∧ W.cell? ⟨b, off + k * 5 + 4, none⟩ = some (.int .i64 e.ln.b)
theorem RpS.low {g m b off k : Nat} {v : Value} {e : E} {W W' : World} (h : RpS g m b off k v e W) (hg : g < W.heap.size) (hb : b < W.heap.size) (hB : Below W.heap.size W W') : RpS g m b off k v e W' := by
  obtain ⟨h0, h1, h2, h3, h4, h5⟩ := h
  exact ⟨(hB.cell (p := ⟨g, _, none⟩) hg).trans h0, (hB.cell (p := ⟨b, _, none⟩) hb).trans h1, (hB.cell (p := ⟨b, _, none⟩) hb).trans h2, (hB.cell (p := ⟨b, _, none⟩) hb).trans h3, (hB.cell (p := ⟨b, _, none⟩) hb).trans h4, (hB.cell (p := ⟨b, _, none⟩) hb).trans h5⟩
theorem RpS.grow {g m b off k : Nat} {v : Value} {e : E} {W W' : World} (h : RpS g m b off k v e W) (hg : W.grownBy W' (some g)) (hbg : b ≠ g) (hc : W'.cell? ⟨g, m, none⟩ = some v) : RpS g m b off k v e W' := by
  obtain ⟨h0, h1, h2, h3, h4, h5⟩ := h
  have hne : some b ≠ some g := fun h => hbg (by injection h)
  exact ⟨hc, hg.cell h1 hne, hg.cell h2 hne, hg.cell h3 hne, hg.cell h4 hne, hg.cell h5 hne⟩
theorem row_after {W W8 : World} {base g n m : Nat} {t : TypeId} {u y v8 : Value} {xs : List Value} (h : W.cell? ⟨g, m, none⟩ = some u) (hx : xs[m]? = some u) (hg : g < W.heap.size) (hown : W8.ownsRow base t 1 v8 (n + 1) (xs ++ [y])) (hat : v8.ownBlock = some g ∨ v8.ownBlock = some W.heap.size ∧ W.grownBy W8 none) : W8.cell? ⟨g, m, none⟩ = some u := by
  obtain ⟨a8, c8, rfl⟩ := own_slice hown
  obtain ⟨g8, rfl⟩ := own_form hown (Nat.succ_pos _)
  rcases hat with e | ⟨_, hgr⟩
  · have e1 : g8 = g := by simpa [Value.ownBlock] using e
    subst e1
    exact own_cell hown (by rw [List.getElem?_append_left (List.getElem?_eq_some_iff.1 hx).1]; exact hx)
  · exact hgr.cell h (by simp)
/-- All parts in memory, as they are built. -/
def GivesRowsP (xs : List E) (w : World) (e : Ending) (w' : World) : Prop := ∃ a c, e = .returned (.slice a (ptL xs).length c) ∧ RowsEAt w' a (ptL xs) ∧ Below w.heap.size w w'

end Go.Proofs.YtdcoebeffbkpnaaGreat

/- IsMinimal of the document's side. -/
set_option linter.unusedVariables false
set_option linter.unusedSimpArgs false
namespace Go.Proofs.YtdcoebeffbkpnaaGreat
open Go.RowKit Tinker

end Go.Proofs.YtdcoebeffbkpnaaGreat

/- The smallest part, the document's side. -/
set_option linter.unusedVariables false
set_option linter.unusedSimpArgs false
namespace Go.Proofs.YtdcoebeffbkpnaaGreat
open Go.RowKit Tinker

theorem drop_at4 {l : List Int} {k : Nat} {x : Int} (h : l[k]? = some x) : l.drop k = x :: l.drop (k + 1) := by
  obtain ⟨hk, rfl⟩ := List.getElem?_eq_some_iff.1 h
  exact List.drop_eq_getElem_cons hk
theorem befE_same4 {a b : List Int} {k : Nat} {x : Int} (h1 : a[k]? = some x) (h2 : b[k]? = some x) : befB (a.drop k) (b.drop k) = befB (a.drop (k + 1)) (b.drop (k + 1)) := by
  rw [drop_at4 h1, drop_at4 h2, befB, if_pos rfl]
theorem befE_diff4 {a b : List Int} {k : Nat} {x y : Int} (h1 : a[k]? = some x) (h2 : b[k]? = some y) (hne : x ≠ y) : befB (a.drop k) (b.drop k) = decide (x < y) := by
  rw [drop_at4 h1, drop_at4 h2, befB, if_neg hne]
theorem befE_end4 {a b : List Int} {k : Nat} (h : a.length ≤ k ∨ b.length ≤ k) (ha : k ≤ a.length) (hb : k ≤ b.length) : befB (a.drop k) (b.drop k) = decide (a.length < b.length) := by
  by_cases h1 : a.length ≤ k
  · rw [List.drop_of_length_le h1]
    by_cases h2 : b.length ≤ k
    · rw [List.drop_of_length_le h2, befB]
      simp; omega
    · obtain ⟨y, hy⟩ := get_of_lt (show k < b.length by omega)
      rw [drop_at4 hy, befB]
      simp; omega
  · have h2 : b.length ≤ k := by omega
    rw [List.drop_of_length_le h2]
    obtain ⟨x, hx⟩ := get_of_lt (show k < a.length by omega)
    rw [drop_at4 hx, befB]
    simp; omega

theorem vpx_sub4 {ps : List L} {xs z : List E} {c : Int} (h : vpx ps xs c = 0) (hs : z.Sublist xs) : vpx ps z c = 0 := by
  have hk := okX_of h
  have hd := okX_dist h
  obtain ⟨h1, h2, h3, h4⟩ := vpx_ok h
  obtain ⟨k1, k2, k3⟩ := vx_ok h2
  have hz := hk.sub hs
  have e : vx z = 0 := vx_0 hz.len (set_of (sub_dist hs hd)) fun e he => by
    have := k3 e (hs.subset he)
    rw [Bool.and_eq_true]
    exact ⟨btw_true.2 this.1, this.2⟩
  unfold vpx
  rw [h1, e, h3, if_pos (by rfl), if_pos]
  refine allBtw_of fun n hn => ?_
  obtain ⟨e, he, rfl⟩ := List.mem_map.1 hn
  have := hz.at_ e he
  omega
theorem pl_get {xs : List E} {k : Nat} {e : E} (h : xs[k]? = some e) : (pl xs)[k]? = some e.at_ := by unfold pl; rw [List.getElem?_map, h]; rfl

theorem smF_take {gd : List E → Bool} {sp : List (List E)} {k : Nat} {z : List E} (hz : sp[k]? = some z) : smF gd (sp.take (k + 1)) = if gd z then (match smF gd (sp.take k) with | none => some z | some y => if befE z y then some z else smF gd (sp.take k)) else smF gd (sp.take k) := by
  rw [take_snoc hz]; exact smF_snoc _ _ _

end Go.Proofs.YtdcoebeffbkpnaaGreat
