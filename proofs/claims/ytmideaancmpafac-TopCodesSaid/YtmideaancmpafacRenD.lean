/- Rename of the document's answers: contract. -/
import Derived.Test.YtmideaancmpafacRenC
set_option linter.unusedVariables false
set_option linter.unusedSimpArgs false
namespace Go.Proofs.Ytmideaancmpafac
open Go.RowKit Tinker

theorem list_set_same {α : Type} {l : List α} {i : Nat} {x : α} (h : l[i]? = some x) : l.set i x = l := by
  refine List.ext_getElem? fun j => ?_
  rw [List.getElem?_set]
  split
  · rename_i e; subst e
    have hi := (List.getElem?_eq_some_iff.1 h).1
    rw [if_pos hi, h]
  · rfl
theorem lc_set1 {qs : List L} {i : Nat} {l : L} (h : qs[i]? = some l) (x : Int) : lc (qs.set i ⟨l.op, x, l.a, l.b⟩) = (lc qs).set (i * 4 + 1) (.int .i64 x) := by
  obtain ⟨h0, h1, h2, h3⟩ := lc_get h
  have hi := (List.getElem?_eq_some_iff.1 h).1
  rw [lc_set _ hi]
  simp only
  rw [list_set_same h0, list_set_same (i := i * 4 + 2) (by rw [List.getElem?_set_ne (by omega)]; exact h2), list_set_same (i := i * 4 + 3) (by rw [List.getElem?_set_ne (by omega)]; exact h3)]
theorem lc_set2 {qs : List L} {i : Nat} {l : L} (h : qs[i]? = some l) (x : Int) : lc (qs.set i ⟨l.op, l.to, x, l.b⟩) = (lc qs).set (i * 4 + 2) (.int .i64 x) := by
  obtain ⟨h0, h1, h2, h3⟩ := lc_get h
  have hi := (List.getElem?_eq_some_iff.1 h).1
  rw [lc_set _ hi]
  simp only
  rw [list_set_same h0, list_set_same h1, list_set_same (i := i * 4 + 3) (by rw [List.getElem?_set_ne (by omega)]; exact h3)]
theorem lc_set3 {qs : List L} {i : Nat} {l : L} (h : qs[i]? = some l) (x : Int) : lc (qs.set i ⟨l.op, l.to, l.a, x⟩) = (lc qs).set (i * 4 + 3) (.int .i64 x) := by
  obtain ⟨h0, h1, h2, h3⟩ := lc_get h
  have hi := (List.getElem?_eq_some_iff.1 h).1
  rw [lc_set _ hi]
  simp only
  rw [list_set_same h0, list_set_same h1, list_set_same h2]

/-- The new program of the document's answer. -/
structure RqI (g c n : Nat) (qs : List L) (w W : World) : Prop where
  own : W.ownsRow w.heap.size 43 4 (.slice (some ⟨g, 0, none⟩) n c) n (lc qs)
  below : Below w.heap.size w W
theorem RqI.low {g c n : Nat} {qs : List L} {w W W' : World} (h : RqI g c n qs w W) (hb : Below W.heap.size W W') : RqI g c n qs w W' := ⟨own_below h.own hb (Nat.le_refl _), h.below.trans (hb.mono h.below.size)⟩
theorem RqI.put1 {g c n : Nat} {qs : List L} {w W : World} (h : RqI g c n qs w W) {i : Nat} {l : L} (hl : qs[i]? = some l) (x : Int) : RqI g c n (qs.set i ⟨l.op, x, l.a, l.b⟩) w (W.setCell ⟨g, i * 4 + 1, none⟩ (.int .i64 x)) :=
  ⟨by rw [lc_set1 hl]; exact own_setCell h.own _ _, h.below.setCell (p := ⟨g, _, none⟩) (own_base' h.own) _⟩
theorem RqI.put2 {g c n : Nat} {qs : List L} {w W : World} (h : RqI g c n qs w W) {i : Nat} {l : L} (hl : qs[i]? = some l) (x : Int) : RqI g c n (qs.set i ⟨l.op, l.to, x, l.b⟩) w (W.setCell ⟨g, i * 4 + 2, none⟩ (.int .i64 x)) :=
  ⟨by rw [lc_set2 hl]; exact own_setCell h.own _ _, h.below.setCell (p := ⟨g, _, none⟩) (own_base' h.own) _⟩
theorem RqI.put3 {g c n : Nat} {qs : List L} {w W : World} (h : RqI g c n qs w W) {i : Nat} {l : L} (hl : qs[i]? = some l) (x : Int) : RqI g c n (qs.set i ⟨l.op, l.to, l.a, x⟩) w (W.setCell ⟨g, i * 4 + 3, none⟩ (.int .i64 x)) :=
  ⟨by rw [lc_set3 hl]; exact own_setCell h.own _ _, h.below.setCell (p := ⟨g, _, none⟩) (own_base' h.own) _⟩
def ren1 (nm : List Int) (l : L) : L := ⟨l.op, if Tinker.wr l then nm.getD l.to.toNat 0 else l.to, l.a, l.b⟩
def ren2 (nm : List Int) (l : L) : L := ⟨l.op, (ren1 nm l).to, if 2 ≤ l.op then nm.getD l.a.toNat 0 else l.a, l.b⟩
theorem ren3 (nm : List Int) (l : L) : renL nm l = ⟨l.op, (ren2 nm l).to, (ren2 nm l).a, if 3 ≤ l.op then nm.getD l.b.toNat 0 else l.b⟩ := rfl

end Go.Proofs.Ytmideaancmpafac
