/- Size and Clean of the document's side (patches): contracts. -/
import Derived.Test.YtjciojoeifekeaaGreatRd4
import Derived.Test.YtjciojoeifekeaaGreatPtZ
import Derived.Test.YtjciojoeifekeaaGreatEdO
set_option linter.unusedVariables false
set_option linter.unusedSimpArgs false
namespace Go.Proofs.YtjciojoeifekeaaGreat
open Go.RowKit Tinker

set_option maxRecDepth 100000 in
set_option maxHeartbeats 4000000 in
theorem fields_any (l m : L) (w : World) : Calls Tryz.prog 77 #[lv l, lv m] w fun e w' => e = .returned (.int .i64 (dsN l m)) ∧ Below w.heap.size w w' := by
  have HB := Lib.hid (show Below w.heap.size w ((w.alloc (.cells #[.int .i64 l.op, .int .i64 l.to, .int .i64 l.a, .int .i64 l.b] 23)).alloc (.cells #[.int .i64 m.op, .int .i64 m.to, .int .i64 m.a, .int .i64 m.b] 23)) from ((Below.refl _ _).alloc (Nat.le_refl _) _).alloc (by simp) _)
  have HD := Lib.hid (show dsN l m = b1 (l.op != m.op) + b1 (l.to != m.to) + b1 (l.a != m.a) + b1 (l.b != m.b) from rfl)
  unfold lv
  cases h0 : (l.op != m.op) <;> cases h1 : (l.to != m.to) <;> cases h2 : (l.a != m.a) <;> cases h3 : (l.b != m.b)
  all_goals rw [h0, h1, h2, h3] at HD
  all_goals go_enter Tryz.func77, Tryz.ntmps77
  all_goals go_wp2_with fail
  all_goals go_ret
  all_goals exact ⟨ret_int HD.out.symm, HB.out⟩

theorem sz_take' {ps : List L} {xs : List E} {k : Nat} {e : E} {l : L} (he : xs[k]? = some e) (hl : ps[e.at_.toNat]? = some l) : szL ps (xs.take (k + 1)) = szL ps (xs.take k) + dsN l e.ln := by
  rw [sz_take he hl, dsN_comm]

theorem eqL_comm4 (l m : L) : eqL l m = eqL m l := by
  rw [Bool.eq_iff_iff, eqL_iff, eqL_iff]
  exact ⟨fun h => h.symm, fun h => h.symm⟩
theorem cl_yes {ps : List L} {xs : List E} {k : Nat} {e : E} {l : L} (he : xs[k]? = some e) (hl : ps[e.at_.toNat]? = some l) (h : eqL e.ln l = false) : clL ps (xs.take (k + 1)) = clL ps (xs.take k) ++ [e] := by
  unfold clL
  rw [List.take_add_one, he, List.filter_append]
  show _ ++ [e].filter _ = _
  rw [List.filter_cons, lnD_at hl, h]
  rfl
theorem cl_no {ps : List L} {xs : List E} {k : Nat} {e : E} {l : L} (he : xs[k]? = some e) (hl : ps[e.at_.toNat]? = some l) (h : eqL e.ln l = true) : clL ps (xs.take (k + 1)) = clL ps (xs.take k) := by
  unfold clL
  rw [List.take_add_one, he, List.filter_append]
  show _ ++ [e].filter _ = _
  rw [List.filter_cons, lnD_at hl, h]
  show _ ++ [] = _
  rw [List.append_nil]
theorem cl_len (ps : List L) (xs : List E) : (clL ps xs).length ≤ xs.length := by unfold clL; exact List.length_filter_le _ _

end Go.Proofs.YtjciojoeifekeaaGreat
