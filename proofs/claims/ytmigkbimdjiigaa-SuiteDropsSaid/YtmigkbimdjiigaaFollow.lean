/- follow: its contract. -/
import Derived.Test.YtmigkbimdjiigaaFolB
import Derived.Laws.EntriesVeiled
import Derived.Deep.RegionHeld3
set_option linter.unusedVariables false
set_option linter.unusedSimpArgs false
namespace Go.Proofs.Ytmigkbimdjiigaa
open Go.RowKit Tinker

theorem put4_cv {s : List Int} {d : List Bool} {b : List Int} {i : Nat} {t0 t1 t2 t3 : Int} (hs : s.length = 4) (hd : d.length = 8) :
    (((((cv s d b).setIfInBounds (12 + i * 4) (.int .i64 t0)).setIfInBounds (12 + i * 4 + 1) (.int .i64 t1)).setIfInBounds (12 + i * 4 + 1 + 1) (.int .i64 t2)).setIfInBounds (12 + i * 4 + 1 + 1 + 1) (.int .i64 t3)) = cv s d (put4 b i [t0, t1, t2, t3]) := by
  rw [cv_set2 hs hd, show 12 + i * 4 + 1 = 12 + (i * 4 + 1) by omega, cv_set2 hs hd, show 12 + (i * 4 + 1) + 1 = 12 + (i * 4 + 2) by omega, cv_set2 hs hd, show 12 + (i * 4 + 2) + 1 = 12 + (i * 4 + 3) by omega, cv_set2 hs hd]
  simp [put4]

theorem one4 (a b c d : Int) : (#[Value.int .i64 a, .int .i64 b, .int .i64 c, .int .i64 d] : Array Value).all (·.oneCell') = true := by simp [Value.oneCell']
theorem wr_to {l : L} (hl : isLn l = true) (hw : Tinker.wr l = true) : 0 ≤ l.to ∧ l.to ≤ 3 := by
  have := isLn_op hl
  simp only [Tinker.wr, Bool.and_eq_true, bne_iff_ne] at hw
  exact isLn_to hl (by omega) (by omega)
theorem fol_next {ps : List L} {f : Nat → Option Int} {s0 s : List Int} {i : Nat} {acc : List (Nat × List Int)} {l : L} (hl : ps[i]? = some l) (h1 : (tr ps f 0 s0).1 = acc ++ (tr ps f i s).1) (h2 : (tr ps f 0 s0).2 = (tr ps f i s).2) :
    (tr ps f 0 s0).1 = (acc ++ [(i, s)]) ++ (tr ps f (nxt l s i) (stp l s (f i))).1 ∧ (tr ps f 0 s0).2 = (tr ps f (nxt l s i) (stp l s (f i))).2 := by
  rw [h1, h2, tr_lt hl]; simp
theorem nxt_no {l : L} {s : List Int} {i : Nat} (h : skips l s = false) : nxt l s i = i + 1 := by unfold nxt; rw [h]; rfl
theorem nxt_yes {l : L} {s : List Int} {i : Nat} (h : skips l s = true) : nxt l s i = i + 1 + l.to.toNat := by unfold nxt; rw [h]; rfl
theorem skips_op {l : L} {s : List Int} (h : skips l s = true) : l.op = 7 := by
  unfold skips at h; simp only [Bool.and_eq_true, beq_iff_eq] at h; exact h.1
theorem there_of {w : World} {g o n : Nat} {cs : Array Value} {t : TypeId} (h : w.heap[g]? = some (.cells cs t (0, 0))) (hn : o + n ≤ cs.size) : w.there g o n := fun j hj =>
  ⟨by rw [cell_of_row w g (o + j) cs t (0, 0) h, Array.getElem?_eq_getElem (by omega)]; rfl, hp_free h _⟩
theorem range_of {w : World} {g o : Nat} {cs : Array Value} {t : TypeId} (h : w.heap[g]? = some (.cells cs t (0, 0))) {vs : List Value} (hv : ∀ j v, vs[j]? = some v → cs[o + j]? = some v) : w.rangeAt g o vs := fun j v hj => hp_cell h (hv j v hj)

end Go.Proofs.Ytmigkbimdjiigaa
