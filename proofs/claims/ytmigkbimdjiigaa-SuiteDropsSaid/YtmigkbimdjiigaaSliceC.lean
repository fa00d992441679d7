/- Several texts in one. -/
import Derived.Test.YtmigkbimdjiigaaRunC
import Derived.Test.YtmigkbimdjiigaaPlain
import Derived.RangeFuncNested
import Derived.RangeFuncBound
import Derived.RangeFuncCalls
import Derived.RangeFuncLeaves
import Derived.Shelf.Abstract
import Derived.Shelf.RegionOpen
import Derived.OwnWalkIn
import Derived.TacticsInMore
import Derived.LoopNIn
import Derived.LoopIn
import Derived.RangeFuncBox
/- matterBefore: contract. -/
set_option linter.unusedVariables false
set_option linter.unusedSimpArgs false
namespace Go.Proofs.Ytmigkbimdjiigaa
open Go.RowKit Tinker

theorem bools4 {s : List Bool} (h : s.length = 4) : ∃ s0 s1 s2 s3, s = [s0, s1, s2, s3] := by
  match s, h with
  | [a, b, c, d], _ => exact ⟨a, b, c, d, rfl⟩

def mat1 (l : L) (m : List Bool) : List Bool := if Tinker.wr l then m.set l.to.toNat false else m
theorem mat1_length (l : L) (m : List Bool) : (mat1 l m).length = m.length := by unfold mat1; split <;> simp

end Go.Proofs.Ytmigkbimdjiigaa

/- slices.Backward over the lines of a program: the iterator's contract. -/
set_option linter.unusedVariables false
set_option linter.unusedSimpArgs false
namespace Go.Proofs.Ytmigkbimdjiigaa
open Go.RowKit Go.Shelf Tinker
attribute [local go_sem] Oper.semAt_some

/-- A line of a program, with its number. -/
abbrev NL := { x : Nat × L // x.1 < 8 ∧ isLn x.2 = true }
def encNL (x : NL) : Array Value := #[.int .i64 (x.1.1 : Int), .agg #[.int .i64 x.1.2.op, .int .i64 x.1.2.to, .int .i64 x.1.2.a, .int .i64 x.1.2.b]]

/-- The lines rs, from the last one to the first one, lie at a slice's address. -/
def BackAt (W : World) (b off len : Nat) (rs : List NL) : Prop := rs.length = len ∧ ∀ j x, rs[j]? = some x → x.1.1 = len - 1 - j ∧
  W.cell? ⟨b, off + (len - 1 - j) * 4, none⟩ = some (.int .i64 x.1.2.op) ∧ W.cell? ⟨b, off + (len - 1 - j) * 4 + 1, none⟩ = some (.int .i64 x.1.2.to) ∧
  W.cell? ⟨b, off + (len - 1 - j) * 4 + 2, none⟩ = some (.int .i64 x.1.2.a) ∧ W.cell? ⟨b, off + (len - 1 - j) * 4 + 3, none⟩ = some (.int .i64 x.1.2.b)

/-- What a round keeps: what lay below n₀, and the block Bs. -/
def KpB (n₀ Bs : Nat) (W W' : World) : Prop := Below n₀ W W' ∧ W'.heap[Bs]? = W.heap[Bs]?

end Go.Proofs.Ytmigkbimdjiigaa

/- Slice: contract. -/
set_option linter.unusedVariables false
set_option linter.unusedSimpArgs false
namespace Go.Proofs.Ytmigkbimdjiigaa
open Go.RowKit Go.Shelf Tinker
attribute [local go_sem] Oper.semAt_some

section
variable {P : Program} {Fn : Fence} {n : Nat}
/-- A whole variable read and written inside a fence, outside every round. -/
theorem wpListIn_load_row {ops : Array Oper} {rest : List Oper} {o : Oper} {a : Act} {w : World} {Q : Exit → Act → World → Prop} (hgd : o.guard = none) (ty : TypeId) (x : Operand) (ho : o.op = .load ty x)
    (g : Nat) (hx : a.eval x = .pointer (some ⟨g, 0, none⟩)) (t : TypeId) (cs : Array Value) (fr : Nat × Nat) (d : TypeDesc) (hg : w.heap[g]? = some (.cells cs t fr))
    (hu : P.underlying ty = some d) (hd : (match d with | .struct _ | .array _ _ => true | _ => false) = true) (hi : (P.info? ty).map (·.size) = some cs.size)
    (h : wpListIn Fn n P ops Q rest (a.put o.dst (.agg cs)) w) : wpListIn Fn n P ops Q (o :: rest) a w := by
  refine wpListIn_plain hgd fun K hK' => ?_
  unfold Oper.wpIn
  refine ⟨?_, ?_⟩
  · simp [Oper.about, ho]
  · rw [Oper.semAt_plain _ _ _ (by rw [ho]; intro c hc'; cases hc')]
    simp only [execOp, ho, hx, Instr.loadAt, Instr.sureAddr, Sem.run_bind, Sem.run_pure, Result.andThen_ok, run_loadVar_row w g t ty cs fr d hg hu hd hi]
    exact hK' _ _ h
theorem wpListIn_store_row {ops : Array Oper} {rest : List Oper} {o : Oper} {a : Act} {w : World} {Q : Exit → Act → World → Prop} (hgd : o.guard = none) (ty : TypeId) (x y : Operand) (ho : o.op = .store ty x y)
    (g : Nat) (cells : Array Value) (hx : a.eval x = .pointer (some ⟨g, 0, none⟩)) (hy : a.eval y = .agg cells)
    (t : TypeId) (old : Array Value) (hg : w.heap[g]? = some (.cells old t (0, 0))) (hi : (P.info? ty).map (·.size) = some cells.size)
    (hold : old.size = cells.size) (h1 : cells.all (·.oneCell') = true)
    (h : wpListIn Fn n P ops Q rest (a.put o.dst undef) (w.setRow g cells)) : wpListIn Fn n P ops Q (o :: rest) a w := by
  refine wpListIn_plain hgd fun K hK' => ?_
  unfold Oper.wpIn
  refine ⟨?_, ?_⟩
  · simp [Oper.about, ho]
  · rw [Oper.semAt_plain _ _ _ (by rw [ho]; intro c hc'; cases hc')]
    simp only [execOp, ho, hx, hy, Instr.storeAt, Instr.sureAddr, Sem.run_bind, Sem.run_pure, Result.andThen_ok, run_storeVar_row w g t ty old cells hg hi hold h1]
    exact hK' _ _ h
end

theorem own_heap {β : Type} (g : Nat) (o : β → Obj) (hc : ∀ s, (o s).isCells = true) : Own (fun s W => W.heap[g]? = some (o s)) := fun s X Y row hs hg hrow =>
  (hg.block g (hp_lt hs) (fun e => by obtain ⟨o', ho, h⟩ := hrow g e.symm; rw [hs] at ho; cases ho; rw [hc s] at h; cases h)).trans hs
theorem keeps_below {W W' : World} (h : Below W.heap.size W W') : KeepsOthers W W' := ⟨h.size, fun k o hk _ => (h.block k (hp_lt hk)).trans hk⟩
theorem keeps_row {W : World} {g : Nat} {cs : Array Value} {t : TypeId} (h : W.heap[g]? = some (.cells cs t (0, 0))) (c : Array Value) : KeepsOthers W (W.setRow g c) :=
  ⟨by simp, fun k o hk ho => by
    by_cases e : k = g
    · subst e; rw [h] at hk; cases hk; cases ho
    · exact (setRow_other W g k c e).trans hk⟩

/-- What is known of the slice so far. -/
def slF (D : List Bool) (r : Nat) (pre : List NL) : List Bool × List Bool := (pre.map Subtype.val).foldl (stSl D) (sl0 r)
theorem slF_snoc (D : List Bool) (r : Nat) (pre : List NL) (x : NL) : slF D r (pre ++ [x]) = stSl D (slF D r pre) x.1 := by simp [slF]
theorem sl0_1 (r : Nat) : (sl0 r).1.length = 4 := by simp [sl0]
theorem slF_1 (D : List Bool) (r : Nat) (pre : List NL) : (slF D r pre).1.length = 4 := by unfold slF; rw [(foldSl_length D _ _).1]; exact sl0_1 r
theorem slF_2 (D : List Bool) (r : Nat) (pre : List NL) : (slF D r pre).2.length = 8 := by unfold slF; rw [(foldSl_length D _ _).2]; simp [sl0]

theorem no_undef {b : Bool} (h : some undef = some (Value.bool b)) : False := by simp [undef] at h
theorem false4 (r : Int) (h0 : 0 ≤ r) (h3 : r ≤ 3) : [Value.bool false, .bool false, .bool false, .bool false][r.toNat]? = some (.bool false) := by
  have h : r = 0 ∨ r = 1 ∨ r = 2 ∨ r = 3 := by omega
  rcases h with rfl | rfl | rfl | rfl <;> rfl
theorem set4 (r : Nat) : ([Value.bool false, .bool false, .bool false, .bool false].set r (.bool true)).toArray = bv ([false, false, false, false].set r true) := by simp [bv, List.map_set]

/-- The lines of a valid program, with their numbers, from the last one to the first one. -/
theorem back_lines (ps : List L) (h8 : ps.length ≤ 8) (hv : ∀ l ∈ ps, isLn l = true) : ∃ rs : List NL, rs.map Subtype.val = backL ps ∧ rs.length = ps.length ∧ ∀ j x, rs[j]? = some x → x.1.1 = ps.length - 1 - j ∧ ps[ps.length - 1 - j]? = some x.1.2 := by
  have hb : ∀ y ∈ backL ps, y.1 < 8 ∧ isLn y.2 = true := by
    intro y hy
    simp only [backL, List.mem_reverse, List.mem_map, List.mem_range] at hy
    obtain ⟨i, hi, rfl⟩ := hy
    refine ⟨by omega, hv _ ?_⟩
    obtain ⟨l, hl⟩ := get_of_lt hi
    rw [getD_of_get hl]; exact mem_of_get hl
  refine ⟨(backL ps).attach.map (fun y => ⟨y.1, hb y.1 y.2⟩), ?_, by simp [backL], fun j x hx => ?_⟩
  · rw [List.map_map]; exact List.attach_map_subtype_val _
  · have hj : j < ps.length := by have := (List.getElem?_eq_some_iff.1 hx).1; simpa [backL] using this
    have h1 : (backL ps)[j]? = some x.1 := by
      have h2 : ((backL ps).attach.map (fun y => (⟨y.1, hb y.1 y.2⟩ : NL))).map Subtype.val = backL ps := by rw [List.map_map]; exact List.attach_map_subtype_val _
      rw [← h2, List.getElem?_map, hx]; rfl
    unfold backL at h1
    rw [List.getElem?_reverse (by simpa using hj)] at h1
    simp only [List.length_map, List.length_range, List.getElem?_map] at h1
    rw [List.getElem?_range (by omega)] at h1
    simp only [Option.map_some, Option.some.injEq] at h1
    obtain ⟨l, hl⟩ := get_of_lt (show ps.length - 1 - j < ps.length by omega)
    rw [getD_of_get hl] at h1
    rw [← h1]
    exact ⟨rfl, hl⟩

end Go.Proofs.Ytmigkbimdjiigaa
