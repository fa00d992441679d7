/- Several texts in one. -/
import Derived.Test.YtdcoebeffbkpnaaGreatMgA
import Derived.Test.YtdcoebeffbkpnaaGreatPtZ
import Derived.Test.YtdcoebeffbkpnaaGreatSkA
import Derived.Test.YtdcoebeffbkpnaaGreatFxC
import Derived.Test.YtdcoebeffbkpnaaGreatTells
/- A line merged of two: plain mathematics, the code's contract. -/
set_option linter.unusedVariables false
set_option linter.unusedSimpArgs false
namespace Go.Proofs.YtdcoebeffbkpnaaGreat
open Go.RowKit Tinker

/-- What becomes of a line that two changed, and whether they changed it in other ways. -/
def mlL (p a b : L) : L := if eqL b p then a else if eqL a p || eqL a b then b else p
def mlB (p a b : L) : Bool := !eqL b p && !(eqL a p || eqL a b)
theorem mlB_comm (p a b : L) : mlB p a b = mlB p b a := by
  have h : eqL a b = eqL b a := by
    rw [Bool.eq_iff_iff, eqL_iff, eqL_iff]
    exact ⟨fun h => h.symm, fun h => h.symm⟩
  unfold mlB
  rw [h]
  cases eqL b p <;> cases eqL a p <;> cases eqL b a <;> rfl
theorem mlL_comm (p a b : L) : mlL p a b = mlL p b a := by
  unfold mlL
  cases h1 : eqL b p
  · cases h2 : eqL a p
    · cases h3 : eqL a b
      · have h4 : eqL b a = false := by
          cases h5 : eqL b a
          · rfl
          · have := eqL_iff.1 h5; rw [this, eqL_self] at h3; cases h3
        rw [h4]
        (try rfl)
      · have := eqL_iff.1 h3
        subst this
        rw [eqL_self]
        (try rfl)
    · rfl
  · have h1' := eqL_iff.1 h1
    cases h2 : eqL a p
    · rfl
    · rw [eqL_iff.1 h2, h1']
      (try rfl)
theorem mlL_base (p a : L) : mlL p a p = a ∧ mlB p a p = false := by
  unfold mlL mlB
  rw [eqL_self]
  exact ⟨rfl, rfl⟩

theorem below4 (w : World) (o1 o2 o3 o4 : Obj) : Below w.heap.size w ((((w.alloc o1).alloc o2).alloc o3).alloc o4) :=
  ((((Below.refl _ _).alloc (Nat.le_refl _) _).alloc (by simp) _).alloc (by simp; omega) _).alloc (by simp; omega) _

set_option maxRecDepth 100000 in
set_option maxHeartbeats 8000000 in
theorem mergeLine_any (p a b : L) (w : World) : Calls Tryz.prog 88 #[lv p, lv a, lv b] w fun e w' => e = .returned (.tuple #[lv (mlL p a b), .bool (mlB p a b)]) ∧ Below w.heap.size w w' := by
  cases h1 : eqL b p
  · cases h2 : eqL a p
    · cases h3 : eqL a b
      · have HB1 := Lib.hid (show mlL p a b = p by unfold mlL; rw [h1, h2, h3]; rfl)
        have HB2 := Lib.hid (show mlB p a b = true by unfold mlB; rw [h1, h2, h3]; rfl)
        rw [HB1.out, HB2.out]
        have N1 := Lib.hid (ne_facts h1)
        have N2 := Lib.hid (ne_facts h2)
        have N3 := Lib.hid (ne_facts h3)
        clear h1 h2 h3 HB1 HB2
        unfold lv
        rcases N1.out with x1 | ⟨x1, x2⟩ | ⟨x1, x2, x3⟩ | ⟨x1, x2, x3, x4⟩
        all_goals rcases N2.out with y1 | ⟨y1, y2⟩ | ⟨y1, y2, y3⟩ | ⟨y1, y2, y3, y4⟩
        all_goals rcases N3.out with z1 | ⟨z1, z2⟩ | ⟨z1, z2, z3⟩ | ⟨z1, z2, z3, z4⟩
        all_goals go_enter Tryz.func88, Tryz.ntmps88
        all_goals go_wp2_with fail
        all_goals refine bodyPost_ret (v := .tuple #[.agg #[.int .i64 p.op, .int .i64 p.to, .int .i64 p.a, .int .i64 p.b], .bool true]) ?_ rfl ⟨rfl, below4 _ _ _ _ _⟩
        all_goals exact results_cell_row_tmp4 (p := 6) (ty := 63) rfl _ _ (w.heap.size + 1 + 1 + 1) 63 #[.int .i64 p.op, .int .i64 p.to, .int .i64 p.a, .int .i64 p.b] (0, 0) (by rfl) (hp_new (by simp)) Tryz.underlying63 size_ln4 rfl
      · have HB1 := Lib.hid (show mlL p a b = b by unfold mlL; rw [h1, h2, h3]; rfl)
        have HB2 := Lib.hid (show mlB p a b = false by unfold mlB; rw [h1, h2, h3]; rfl)
        rw [HB1.out, HB2.out]
        have N1 := Lib.hid (ne_facts h1)
        have h := eqL_iff.1 h3
        subst h
        clear h1 h2 h3 HB1 HB2
        unfold lv
        rcases N1.out with x1 | ⟨x1, x2⟩ | ⟨x1, x2, x3⟩ | ⟨x1, x2, x3, x4⟩
        all_goals go_enter Tryz.func88, Tryz.ntmps88
        all_goals go_wp2_with fail
        all_goals refine bodyPost_ret (v := .tuple #[.agg #[.int .i64 a.op, .int .i64 a.to, .int .i64 a.a, .int .i64 a.b], .bool false]) ?_ rfl ⟨rfl, below4 _ _ _ _ _⟩
        all_goals exact results_cell_row_tmp4 (p := 6) (ty := 63) rfl _ _ (w.heap.size + 1 + 1 + 1) 63 #[.int .i64 a.op, .int .i64 a.to, .int .i64 a.a, .int .i64 a.b] (0, 0) (by rfl) (hp_new (by simp)) Tryz.underlying63 size_ln4 rfl
    · have HB1 := Lib.hid (show mlL p a b = b by unfold mlL; rw [h1, h2]; rfl)
      have HB2 := Lib.hid (show mlB p a b = false by unfold mlB; rw [h1, h2]; rfl)
      rw [HB1.out, HB2.out]
      have N1 := Lib.hid (ne_facts h1)
      have h := eqL_iff.1 h2
      subst h
      clear h1 h2 HB1 HB2
      unfold lv
      rcases N1.out with x1 | ⟨x1, x2⟩ | ⟨x1, x2, x3⟩ | ⟨x1, x2, x3, x4⟩
      all_goals go_enter Tryz.func88, Tryz.ntmps88
      all_goals go_wp2_with fail
      all_goals refine bodyPost_ret (v := .tuple #[.agg #[.int .i64 b.op, .int .i64 b.to, .int .i64 b.a, .int .i64 b.b], .bool false]) ?_ rfl ⟨rfl, below4 _ _ _ _ _⟩
      all_goals exact results_cell_row_tmp4 (p := 6) (ty := 63) rfl _ _ (w.heap.size + 1 + 1 + 1) 63 #[.int .i64 b.op, .int .i64 b.to, .int .i64 b.a, .int .i64 b.b] (0, 0) (by rfl) (hp_new (by simp)) Tryz.underlying63 size_ln4 rfl
  · have HB1 := Lib.hid (show mlL p a b = a by unfold mlL; rw [h1]; rfl)
    have HB2 := Lib.hid (show mlB p a b = false by unfold mlB; rw [h1]; rfl)
    rw [HB1.out, HB2.out]
    have h := eqL_iff.1 h1
    subst h
    clear h1 HB1 HB2
    unfold lv
    go_enter Tryz.func88, Tryz.ntmps88
    go_wp2_with fail
    refine bodyPost_ret (v := .tuple #[.agg #[.int .i64 a.op, .int .i64 a.to, .int .i64 a.a, .int .i64 a.b], .bool false]) ?_ rfl ⟨rfl, below4 _ _ _ _ _⟩
    exact results_cell_row_tmp4 (p := 6) (ty := 63) rfl _ _ (w.heap.size + 1 + 1 + 1) 63 #[.int .i64 a.op, .int .i64 a.to, .int .i64 a.a, .int .i64 a.b] (0, 0) (by rfl) (hp_new (by simp)) Tryz.underlying63 size_ln4 rfl

end Go.Proofs.YtdcoebeffbkpnaaGreat

/- Three programs merged: plain mathematics. -/
set_option linter.unusedVariables false
set_option linter.unusedSimpArgs false
namespace Go.Proofs.YtdcoebeffbkpnaaGreat
open Go.RowKit Tinker

theorem plc_nilA {bs : List Bool} (h : ∀ b ∈ bs, b = false) : plc bs = [] := by
  unfold plc plcTo
  rw [List.map_eq_nil_iff, List.filter_eq_nil_iff]
  intro a ha
  obtain ⟨b, hb⟩ := get_of_lt (List.mem_range.1 ha)
  rw [getD_of_get hb, h b (mem_of_get hb)]
  simp
def thC (ps xs ys : List L) : Int := if fe (fe (vp ps) (vp xs)) (vp ys) = 0 then (if xs.length = ps.length ∧ ys.length = ps.length then 0 else 9) else fe (fe (vp ps) (vp xs)) (vp ys)
def thLto (ps xs ys : List L) (k : Nat) : List L := (List.range k).map fun i => mlL (lnD ps i) (lnD xs i) (lnD ys i)
def thBto (ps xs ys : List L) (k : Nat) : List Bool := (List.range k).map fun i => mlB (lnD ps i) (lnD xs i) (lnD ys i)
def thL (ps xs ys : List L) : List L := if thC ps xs ys = 0 then thLto ps xs ys ps.length else []
def thN (ps xs ys : List L) : List Int := if thC ps xs ys = 0 then plc (thBto ps xs ys ps.length) else []
theorem thC_ok {ps xs ys : List L} (h : thC ps xs ys = 0) : vp ps = 0 ∧ vp xs = 0 ∧ vp ys = 0 ∧ xs.length = ps.length ∧ ys.length = ps.length := by
  unfold thC at h
  split at h
  · rename_i h0
    obtain ⟨h1, h2⟩ := fe_0 h0
    obtain ⟨h3, h4⟩ := fe_0 h1
    split at h
    · rename_i h5
      exact ⟨h3, h4, h2, h5.1, h5.2⟩
    · cases h
  · rename_i h0; exact absurd h h0
theorem thC_of {ps xs ys : List L} (h1 : vp ps = 0) (h2 : vp xs = 0) (h3 : vp ys = 0) (h4 : xs.length = ps.length) (h5 : ys.length = ps.length) : thC ps xs ys = 0 := by
  unfold thC
  rw [h1, h2, h3, if_pos (by rfl), if_pos ⟨h4, h5⟩]
theorem plcTo_len4 (bs : List Bool) (k : Nat) : (plcTo bs k).length ≤ k := plcTo_length bs k
theorem thL_len (ps xs ys : List L) : (thL ps xs ys).length ≤ 8 := by
  unfold thL
  split
  · rename_i h
    unfold thLto
    rw [List.length_map, List.length_range]
    exact (vp_ok (thC_ok h).1).1
  · simp
theorem thN_len (ps xs ys : List L) : (thN ps xs ys).length ≤ 8 := by
  unfold thN
  split
  · rename_i h
    refine Nat.le_trans (plcTo_len4 _ _) ?_
    unfold thBto
    rw [List.length_map, List.length_range]
    exact (vp_ok (thC_ok h).1).1
  · simp
theorem th_self (ps xs : List L) (h : xs.length = ps.length) : thLto ps xs ps ps.length = xs := by
  refine lines_ext (by unfold thLto; rw [List.length_map, List.length_range, h]) fun i hi => ?_
  have hi2 : i < ps.length := by unfold thLto at hi; rw [List.length_map, List.length_range] at hi; exact hi
  obtain ⟨l, hl⟩ := get_of_lt (show i < xs.length by omega)
  unfold thLto
  rw [List.getElem?_map, List.getElem?_range hi2]
  show some (mlL (lnD ps i) (lnD xs i) (lnD ps i)) = _
  rw [(mlL_base _ _).1, lnD_at hl, hl]
theorem th_no (ps xs : List L) : plc (thBto ps xs ps ps.length) = [] := by
  refine plc_nilA fun b hb => ?_
  unfold thBto at hb
  obtain ⟨i, _, rfl⟩ := List.mem_map.1 hb
  exact (mlL_base _ _).2
/-- The other way round, and with the base itself. -/
theorem th_ok {ps xs ys : List L} (h : thC ps xs ys = 0) : thC ps ys xs = 0 ∧ thL ps ys xs = thL ps xs ys ∧ thN ps ys xs = thN ps xs ys ∧ thC ps xs ps = 0 ∧ thL ps xs ps = xs ∧ thN ps xs ps = [] := by
  obtain ⟨h1, h2, h3, h4, h5⟩ := thC_ok h
  have e1 : thC ps ys xs = 0 := thC_of h1 h3 h2 h5 h4
  have e2 : thC ps xs ps = 0 := thC_of h1 h2 h1 h4 rfl
  have f1 : thLto ps ys xs ps.length = thLto ps xs ys ps.length := List.map_congr_left fun i _ => mlL_comm _ _ _
  have f2 : thBto ps ys xs ps.length = thBto ps xs ys ps.length := List.map_congr_left fun i _ => mlB_comm _ _ _
  refine ⟨e1, ?_, ?_, e2, ?_, ?_⟩
  · unfold thL; rw [if_pos e1, if_pos h, f1]
  · unfold thN; rw [if_pos e1, if_pos h, f2]
  · unfold thL; rw [if_pos e2, th_self ps xs h4]
  · unfold thN; rw [if_pos e2, th_no]

end Go.Proofs.YtdcoebeffbkpnaaGreat

/- Three programs merged: contract of the code. -/
set_option linter.unusedVariables false
set_option linter.unusedSimpArgs false
namespace Go.Proofs.YtdcoebeffbkpnaaGreat
open Go.RowKit Tinker

/-- Lines, numbers and a code. -/
def GivesThree (ls : List L) (ns : List Int) (c : Int) (w : World) (e : Ending) (w' : World) : Prop :=
  ∃ a k b m, e = .returned (.tuple #[.slice a ls.length k, .slice b ns.length m, .int .i64 c]) ∧ LinesAt w' a ls ∧ IntsAt w' b ns ∧ Below w.heap.size w w'
/-- The two blocks of Three. -/
structure ThI (M : Nat) (ms : List L) (bs : List Bool) (w W : World) : Prop where
  bl : W.heap[M]? = some (.cells (lc ms).toArray 63 (0, 0))
  bb : W.heap[M + 1]? = some (.cells (bv bs) 4 (0, 0))
  le : w.heap.size ≤ M
  below : Below w.heap.size w W
theorem ThI.low {M : Nat} {ms : List L} {bs : List Bool} {w W W' : World} (h : ThI M ms bs w W) (hb : Below W.heap.size W W') : ThI M ms bs w W' :=
  ⟨hp_below h.bl hb (hp_lt h.bl), hp_below h.bb hb (hp_lt h.bb), h.le, h.below.trans (hb.mono h.below.size)⟩
theorem ThI.own {M : Nat} {ms : List L} {bs : List Bool} {w W : World} (h : ThI M ms bs w W) (hm : ms.length ≤ 8) : W.ownsRow w.heap.size 63 4 (.slice (some ⟨M, 0, none⟩) ms.length ms.length) ms.length (lc ms) :=
  lines_own_of h.bl h.le rfl (by omega)
theorem ThI.putL {M : Nat} {ms : List L} {bs : List Bool} {w W : World} (h : ThI M ms bs w W) {k : Nat} (hk : k < ms.length) (l : L) : ThI M (ms.set k l) bs w (W.setCells M (k * 4) [.int .i64 l.op, .int .i64 l.to, .int .i64 l.a, .int .i64 l.b]) := by
  rw [setCells4]
  have hne : M + 1 ≠ M := by omega
  refine ⟨?_, ?_, h.le, (((h.below.setCell (p := ⟨M, _, none⟩) h.le _).setCell (p := ⟨M, _, none⟩) h.le _).setCell (p := ⟨M, _, none⟩) h.le _).setCell (p := ⟨M, _, none⟩) h.le _⟩
  · rw [lc_set l hk]
    have := hp_put (hp_put (hp_put (hp_put h.bl (k * 4) (.int .i64 l.op)) (k * 4 + 1) (.int .i64 l.to)) (k * 4 + 2) (.int .i64 l.a)) (k * 4 + 3) (.int .i64 l.b)
    simpa using this
  · exact hp_set (hp_set (hp_set (hp_set h.bb (by show M + 1 ≠ M; omega) _) (by show M + 1 ≠ M; omega) _) (by show M + 1 ≠ M; omega) _) (by show M + 1 ≠ M; omega) _
theorem ThI.putB {M : Nat} {ms : List L} {bs : List Bool} {w W : World} (h : ThI M ms bs w W) (k : Nat) (y : Bool) : ThI M ms (bs.set k y) w (W.setCell ⟨M + 1, k, none⟩ (.bool y)) :=
  ⟨hp_set h.bl (by show M ≠ M + 1; omega) _, by rw [← bv_set]; exact hp_put h.bb _ _, h.le, h.below.setCell (p := ⟨M + 1, _, none⟩) (by have := h.le; show _ ≤ M + 1; omega) _⟩
theorem ThI.lines {M : Nat} {ms : List L} {bs : List Bool} {w W : World} (h : ThI M ms bs w W) (hm : ms.length ≤ 8) : LinesAt W (some ⟨M, 0, none⟩) ms := (lines_of_own (h.own hm)).1
theorem ThI.bools {M : Nat} {ms : List L} {bs : List Bool} {w W : World} (h : ThI M ms bs w W) : BoolsAt W (M + 1) 0 bs := (⟨h.bb, h.below⟩ : BlkB (M + 1) bs w W).bools
/-- What has been merged of the first k, in a list of n. -/
def thSL (ps xs ys : List L) (k : Nat) : List L := thLto ps xs ys k ++ List.replicate (ps.length - k) ⟨0, 0, 0, 0⟩
def thSB (ps xs ys : List L) (k : Nat) : List Bool := thBto ps xs ys k ++ List.replicate (ps.length - k) false
theorem set_grow {α : Type} {f : Nat → α} {d v : α} {n k : Nat} (hk : k < n) (hv : f k = v) : ((List.range k).map f ++ List.replicate (n - k) d).set k v = (List.range (k + 1)).map f ++ List.replicate (n - (k + 1)) d := by
  rw [show n - k = (n - (k + 1)) + 1 by omega, List.replicate_succ, List.range_succ, List.map_append, List.append_assoc]
  have hl : ((List.range k).map f).length = k := by rw [List.length_map, List.length_range]
  rw [List.set_append_right (h := by omega), hl, Nat.sub_self]
  simp [hv]
theorem thSL_len (ps xs ys : List L) {k : Nat} (hk : k ≤ ps.length) : (thSL ps xs ys k).length = ps.length := by
  unfold thSL thLto
  rw [List.length_append, List.length_map, List.length_range, List.length_replicate]
  omega
theorem thSB_len (ps xs ys : List L) {k : Nat} (hk : k ≤ ps.length) : (thSB ps xs ys k).length = ps.length := by
  unfold thSB thBto
  rw [List.length_append, List.length_map, List.length_range, List.length_replicate]
  omega
theorem thSL_set {ps xs ys : List L} {k : Nat} {p x y : L} (hp : ps[k]? = some p) (hx : xs[k]? = some x) (hy : ys[k]? = some y) : thSL ps xs ys (k + 1) = (thSL ps xs ys k).set k (mlL p x y) := by
  unfold thSL thLto
  exact (set_grow (f := fun i => mlL (lnD ps i) (lnD xs i) (lnD ys i)) (List.getElem?_eq_some_iff.1 hp).1 (by rw [lnD_at hp, lnD_at hx, lnD_at hy])).symm
theorem thSB_set {ps xs ys : List L} {k : Nat} {p x y : L} (hp : ps[k]? = some p) (hx : xs[k]? = some x) (hy : ys[k]? = some y) : thSB ps xs ys (k + 1) = (thSB ps xs ys k).set k (mlB p x y) := by
  unfold thSB thBto
  exact (set_grow (f := fun i => mlB (lnD ps i) (lnD xs i) (lnD ys i)) (List.getElem?_eq_some_iff.1 hp).1 (by rw [lnD_at hp, lnD_at hx, lnD_at hy])).symm
theorem thSL_end (ps xs ys : List L) : thSL ps xs ys ps.length = thLto ps xs ys ps.length := by unfold thSL; rw [Nat.sub_self]; simp
theorem thSB_end (ps xs ys : List L) : thSB ps xs ys ps.length = thBto ps xs ys ps.length := by unfold thSB; rw [Nat.sub_self]; simp
theorem thI_new (w W : World) (n : Nat) (hB : Below w.heap.size w W) : ThI W.heap.size (List.replicate n ⟨0, 0, 0, 0⟩) (List.replicate n false) w ((W.alloc (.cells (lc (List.replicate n ⟨0, 0, 0, 0⟩)).toArray 63)).alloc (.cells (bv (List.replicate n false)) 4)) :=
  ⟨hp_alloc (hp_new rfl), hp_new (by simp), hB.size, (hB.alloc hB.size _).alloc (by simp; have := hB.size; omega) _⟩

/-- What was there stays, but for two blocks. -/
def Keep2 (M : Nat) (W W' : World) : Prop := W.heap.size ≤ W'.heap.size ∧ ∀ b, b < W.heap.size → b ≠ M → b ≠ M + 1 → W'.heap[b]? = W.heap[b]?
theorem Keep2.refl (M : Nat) (W : World) : Keep2 M W W := ⟨Nat.le_refl _, fun _ _ _ _ => rfl⟩
theorem Keep2.low {M : Nat} {W W' W2 : World} (h : Keep2 M W W') (hb : Below W'.heap.size W' W2) : Keep2 M W W2 := ⟨Nat.le_trans h.1 hb.size, fun b hlt h1 h2 => (hb.block b (Nat.lt_of_lt_of_le hlt h.1)).trans (h.2 b hlt h1 h2)⟩
theorem Keep2.put {M : Nat} {W W' : World} (h : Keep2 M W W') (g : Nat) (hg : g = M ∨ g = M + 1) (o : Nat) (vs : List Value) : Keep2 M W (W'.setCells g o vs) :=
  ⟨Nat.le_trans h.1 (Off.setCells g W' o vs).size, fun b hlt h1 h2 => ((Off.setCells g W' o vs).block b (Nat.lt_of_lt_of_le hlt h.1) (by rcases hg with rfl | rfl <;> assumption)).trans (h.2 b hlt h1 h2)⟩
theorem Keep2.cell {M : Nat} {W W' : World} (h : Keep2 M W W') {b o : Nat} {v : Value} (hb : b < W.heap.size) (h1 : b ≠ M) (h2 : b ≠ M + 1) (hc : W.cell? ⟨b, o, none⟩ = some v) : W'.cell? ⟨b, o, none⟩ = some v := (cell_heap (h.2 b hb h1 h2) o).trans hc

set_option maxRecDepth 100000 in
set_option maxHeartbeats 4000000 in
theorem pThree_any (a g g2 : Option Addr) (ca cg cg2 : Nat) (ps xs ys : List L) (w : World) (hp : LinesAt w a ps) (hx : LinesAt w g xs) (hy : LinesAt w g2 ys) :
    Calls Tryz.prog 37 #[.slice a ps.length ca, .slice g xs.length cg, .slice g2 ys.length cg2] w (GivesThree (thL ps xs ys) (thN ps xs ys) (thC ps xs ys) w) := by
  have H1 := Lib.hid (fun w hp => validate_any a ca ps w hp)
  have H2 := Lib.hid (fun w hx => validate_any g cg xs w hx)
  have H3 := Lib.hid (fun w hx => validate_any g2 cg2 ys w hx)
  have HP := Lib.hid hp
  have HX := Lib.hid hx
  have HY := Lib.hid hy
  clear hp hx hy
  by_cases hz : feL [vp ps, vp xs, vp ys] = 0
  · by_cases hl : xs.length = ps.length ∧ ys.length = ps.length
    · have hzz : thC ps xs ys = 0 := by unfold thC; rw [← feL_three, if_pos hz, if_pos hl]
      have HE := Lib.hid (show thL ps xs ys = thLto ps xs ys ps.length ∧ thN ps xs ys = plc (thBto ps xs ys ps.length) from ⟨by unfold thL; rw [if_pos hzz], by unfold thN; rw [if_pos hzz]⟩)
      rw [hzz, HE.out.1, HE.out.2]
      have h8 : ps.length ≤ 8 := (vp_ok (thC_ok hzz).1).1
      have HLx := Lib.hid hl.1
      have HLy := Lib.hid hl.2
      have q1 : (((xs.length : Nat) : Int) != ((ps.length : Nat) : Int)) = false := by rw [hl.1]; simp
      have q2 : (((ys.length : Nat) : Int) != ((ps.length : Nat) : Int)) = false := by rw [hl.2]; simp
      have HZ := Lib.hid hz
      have hmk := mkLines ps.length h8
      have hmb := mkBools ps.length h8
      generalize hc1 : vp ps = c1 at H1 HZ
      generalize hc2 : vp xs = c2 at H2 HZ
      generalize hc3 : vp ys = c3 at H3 HZ
      clear hz hl hzz HE hc1 hc2 hc3
      go_enter Tryz.func37, Tryz.ntmps37
      go_wp2_with fail
      refine (H1.out _ HP.out).mono ?_
      rintro e w1 ⟨rfl, hB1⟩
      have HB1 := Lib.hid hB1
      clear hB1 
      go_wp2_with fail
      refine (H2.out _ (HX.out.below HB1.out (Nat.le_refl _))).mono ?_
      rintro e w2 ⟨rfl, hB2⟩
      have HB2 := Lib.hid (HB1.out.trans (hB2.mono HB1.out.size))
      clear hB2 
      go_wp2_with fail
      refine (H3.out _ (HY.out.below HB2.out (Nat.le_refl _))).mono ?_
      rintro e w3 ⟨rfl, hB3⟩
      have HB3 := Lib.hid (HB2.out.trans (hB3.mono HB2.out.size))
      clear hB3 
      go_wp2_with fail
      refine (firstError3_at _ _ c1 c2 c3 (ints_three _ _ _ _ _)).mono ?_
      rintro e we3 ⟨rfl, hw4⟩
      have hB4 := HB3.out.alloc HB3.out.size (.cells #[.int .i64 c1, .int .i64 c2, .int .i64 c3] 28)
      rw [hw4] at hB4
      have HB4 := Lib.hid hB4
      clear hB4 hw4
      rw [HZ.out]
      have hI0 := thI_new w _ ps.length HB4.out
      have HI0 := Lib.hid hI0
      clear hI0
      go_wp2_with fail
      generalize hM : we3.heap.size = M at HI0 ⊢
      clear hM
      go_loopw [45] (fun s45 wr => ∃ (k : Nat), k ≤ ps.length ∧ s45 = .int .i64 k ∧ ThI M (thSL ps xs ys k) (thSB ps xs ys k) w wr) (fun s45 _ => ps.length - (intOf s45).toNat)
      case atStart => exact ⟨0, Nat.zero_le _, rfl, HI0.out⟩
      case round =>
        clear HI0 HB4
        obtain ⟨k, hk, rfl, hI⟩ := hrel
        by_cases hlt : k < ps.length
        · obtain ⟨b1, off1, p, hpa, hb1, hp1, c0, c1', c2', c3'⟩ := HP.out.at_ hlt
          obtain ⟨b2, off2, x, hxa, hbl2, hx1, y0, y1, y2, y3⟩ := HX.out.at_ (k := k) (by rw [HLx.out]; exact hlt)
          obtain ⟨b3, off3, y, hya, hbl3, hy1, z0, z1, z2, z3⟩ := HY.out.at_ (k := k) (by rw [HLy.out]; exact hlt)
          replace c0 := (hI.below.cell (p := ⟨b1, _, none⟩) hb1).trans c0
          replace c1' := (hI.below.cell (p := ⟨b1, _, none⟩) hb1).trans c1'
          replace c2' := (hI.below.cell (p := ⟨b1, _, none⟩) hb1).trans c2'
          replace c3' := (hI.below.cell (p := ⟨b1, _, none⟩) hb1).trans c3'
          have hb2 := Nat.lt_of_lt_of_le hbl2 hI.below.size
          have hb3 := Nat.lt_of_lt_of_le hbl3 hI.below.size
          replace y0 := (hI.below.cell (p := ⟨b2, _, none⟩) hbl2).trans y0
          replace y1 := (hI.below.cell (p := ⟨b2, _, none⟩) hbl2).trans y1
          replace y2 := (hI.below.cell (p := ⟨b2, _, none⟩) hbl2).trans y2
          replace y3 := (hI.below.cell (p := ⟨b2, _, none⟩) hbl2).trans y3
          replace z0 := (hI.below.cell (p := ⟨b3, _, none⟩) hbl3).trans z0
          replace z1 := (hI.below.cell (p := ⟨b3, _, none⟩) hbl3).trans z1
          replace z2 := (hI.below.cell (p := ⟨b3, _, none⟩) hbl3).trans z2
          replace z3 := (hI.below.cell (p := ⟨b3, _, none⟩) hbl3).trans z3
          subst hpa hxa hya
          have kx : k < xs.length := by rw [HLx.out]; exact hlt
          have ky : k < ys.length := by rw [HLy.out]; exact hlt
          have HSL := Lib.hid (thSL_set hp1 hx1 hy1)
          have HSB := Lib.hid (thSB_set hp1 hx1 hy1)
          have HMl := Lib.hid (fun w => mergeLine_any p x y w)
          have HLen := Lib.hid (thSL_len ps xs ys hk)
          have HLenB := Lib.hid (thSB_len ps xs ys hk)
          have HLen8 := Lib.hid (show (thSL ps xs ys k).length ≤ 8 by rw [HLen.out]; exact h8)
          have hal : Below wr.heap.size wr (wr.alloc (.cells (lV p) 63)) := (Below.refl _ _).alloc (Nat.le_refl _) _
          have hMl := hp_lt hI.bb
          have hMw := hI.le
          have hI1 := hI.low hal
          obtain ⟨x0, x1, x2, x3⟩ := boxL_cells (hp_new (w := wr) (o := .cells (lV p) 63) rfl)
          replace y0 := (hal.cell (p := ⟨b2, _, none⟩) hb2).trans y0
          replace y1 := (hal.cell (p := ⟨b2, _, none⟩) hb2).trans y1
          replace y2 := (hal.cell (p := ⟨b2, _, none⟩) hb2).trans y2
          replace y3 := (hal.cell (p := ⟨b2, _, none⟩) hb2).trans y3
          replace z0 := (hal.cell (p := ⟨b3, _, none⟩) hb3).trans z0
          replace z1 := (hal.cell (p := ⟨b3, _, none⟩) hb3).trans z1
          replace z2 := (hal.cell (p := ⟨b3, _, none⟩) hb3).trans z2
          replace z3 := (hal.cell (p := ⟨b3, _, none⟩) hb3).trans z3
          generalize mlL p x y = m at HSL HMl
          generalize mlB p x y = mb at HSB HMl
          unfold lv at HMl
          have HOne := Lib.hid (one_line m)
          unfold lV at hal hI1 x0 x1 x2 x3 y0 y1 y2 y3 z0 z1 z2 z3
          have hsz : (wr.alloc (.cells #[.int .i64 p.op, .int .i64 p.to, .int .i64 p.a, .int .i64 p.b] 63)).heap.size = wr.heap.size + 1 := by simp
          have HI1 := Lib.hid (hI1.low (show Below _ _ (wr.alloc (.cells #[.int .i64 p.op, .int .i64 p.to, .int .i64 p.a, .int .i64 p.b] 63)).drew from ⟨rfl, rfl, rfl, Nat.le_refl _, fun _ _ => rfl⟩))
          have HKp := Lib.hid (show Keep2 M (wr.alloc (.cells #[.int .i64 p.op, .int .i64 p.to, .int .i64 p.a, .int .i64 p.b] 63)) (wr.alloc (.cells #[.int .i64 p.op, .int .i64 p.to, .int .i64 p.a, .int .i64 p.b] 63)).drew from ⟨Nat.le_refl _, fun _ _ _ _ => rfl⟩)
          have HBox := Lib.hid (show wr.heap.size < (wr.alloc (.cells #[.int .i64 p.op, .int .i64 p.to, .int .i64 p.a, .int .i64 p.b] 63)).heap.size ∧ wr.heap.size ≠ M ∧ wr.heap.size ≠ M + 1 from ⟨by rw [hsz]; omega, by omega, by omega⟩)
          have HBx := Lib.hid (show b2 < (wr.alloc (.cells #[.int .i64 p.op, .int .i64 p.to, .int .i64 p.a, .int .i64 p.b] 63)).heap.size ∧ b2 ≠ M ∧ b2 ≠ M + 1 from ⟨by rw [hsz]; omega, by omega, by omega⟩)
          have HBy := Lib.hid (show b3 < (wr.alloc (.cells #[.int .i64 p.op, .int .i64 p.to, .int .i64 p.a, .int .i64 p.b] 63)).heap.size ∧ b3 ≠ M ∧ b3 ≠ M + 1 from ⟨by rw [hsz]; omega, by omega, by omega⟩)
          clear hI hI1 hal hp1 hx1 hy1 hbl2 hbl3 hMl hMw hsz HP HX HY H1 H2 H3
          go_upto_region 11 with fail
          generalize hW1 : (wr.alloc (.cells #[.int .i64 p.op, .int .i64 p.to, .int .i64 p.a, .int .i64 p.b] 63)) = W1 at *
          have hW1 := Lib.hid hW1
          refine wp_region_held_drew (S := (fun W => Keep2 M W1 W)) (by kernel_rfl) ?_ (fun hHeld => ?_)
          · exact HKp.out
          refine wpAnyH_take (i := 0) (oi := ?oiq1) (v := ?vq1) ?hiq1 (by kernel_rfl) (by decide +kernel) (by decide +kernel) ?hqq1 ?hyq1 hHeld ?restq1
          case hiq1 => exact rfl
          case hqq1 => exact fun _ _ _ h => h
          case hyq1 =>
            refine Or.inl ⟨by rfl, ?_⟩
            intro w hSw
            go_simp
            (try with_reducible rfl)
          try simp only [Act.put, List.getElem_toArray, List.getElem_cons_succ, List.getElem_cons_zero, List.setIfInBounds_toArray, List.set_cons_zero, List.set_cons_succ]
          refine wpAnyH_take (i := 1) (oi := ?oiq2) (v := ?vq2) ?hiq2 (by kernel_rfl) (by decide +kernel) (by decide +kernel) ?hqq2 ?hyq2 hHeld ?restq2
          case hiq2 => exact rfl
          case hqq2 => exact fun _ _ _ h => h
          case hyq2 =>
            refine Or.inl ⟨by rfl, ?_⟩
            intro w hSw
            go_simp
            (try with_reducible rfl)
          try simp only [Act.put, List.getElem_toArray, List.getElem_cons_succ, List.getElem_cons_zero, List.setIfInBounds_toArray, List.set_cons_zero, List.set_cons_succ]
          refine wpAnyH_take (i := 2) (oi := ?oiq3) (v := ?vq3) ?hiq3 (by kernel_rfl) (by decide +kernel) (by decide +kernel) ?hqq3 ?hyq3 hHeld ?restq3
          case hiq3 => exact rfl
          case hqq3 => exact fun _ _ _ h => h
          case hyq3 =>
            refine Or.inl ⟨by rfl, ?_⟩
            intro w hSw
            go_simp
            (try with_reducible rfl)
          try simp only [Act.put, List.getElem_toArray, List.getElem_cons_succ, List.getElem_cons_zero, List.setIfInBounds_toArray, List.set_cons_zero, List.set_cons_succ]
          refine wpAnyH_take (i := 3) (oi := ?oiq4) (v := ?vq4) ?hiq4 (by kernel_rfl) (by decide +kernel) (by decide +kernel) ?hqq4 ?hyq4 hHeld ?restq4
          case hiq4 => exact rfl
          case hqq4 => exact fun _ _ _ h => h
          case hyq4 =>
            refine Or.inl ⟨by rfl, ?_⟩
            intro w hSw
            go_simp
            (try with_reducible rfl)
          try simp only [Act.put, List.getElem_toArray, List.getElem_cons_succ, List.getElem_cons_zero, List.setIfInBounds_toArray, List.set_cons_zero, List.set_cons_succ]
          refine wpAnyH_take (i := 4) (oi := ?oiq5) (v := .agg #[.int .i64 p.op, .int .i64 p.to, .int .i64 p.a, .int .i64 p.b]) ?hiq5 (by kernel_rfl) (by decide +kernel) (by decide +kernel) ?hqq5 ?hyq5 hHeld ?restq5
          case hiq5 => exact rfl
          case hqq5 => exact fun _ _ _ h => h
          case hyq5 =>
            refine Or.inl ⟨by rfl, ?_⟩
            intro w hSw
            have z0 := hSw.cell HBox.out.1 HBox.out.2.1 HBox.out.2.2 x0
            have z1 := hSw.cell HBox.out.1 HBox.out.2.1 HBox.out.2.2 x1
            have z2 := hSw.cell HBox.out.1 HBox.out.2.1 HBox.out.2.2 x2
            have z3 := hSw.cell HBox.out.1 HBox.out.2.1 HBox.out.2.2 x3
            go_simp
            (try with_reducible rfl)
          try simp only [Act.put, List.getElem_toArray, List.getElem_cons_succ, List.getElem_cons_zero, List.setIfInBounds_toArray, List.set_cons_zero, List.set_cons_succ]
          refine wpAnyH_take (i := 5) (oi := ?oiq6) (v := ?vq6) ?hiq6 (by kernel_rfl) (by decide +kernel) (by decide +kernel) ?hqq6 ?hyq6 hHeld ?restq6
          case hiq6 => exact rfl
          case hqq6 => exact fun _ _ _ h => h
          case hyq6 =>
            refine Or.inl ⟨by rfl, ?_⟩
            intro w hSw
            go_simp
            (try with_reducible rfl)
          try simp only [Act.put, List.getElem_toArray, List.getElem_cons_succ, List.getElem_cons_zero, List.setIfInBounds_toArray, List.set_cons_zero, List.set_cons_succ]
          refine wpAnyH_take (i := 6) (oi := ?oiq7) (v := ?vq7) ?hiq7 (by kernel_rfl) (by decide +kernel) (by decide +kernel) ?hqq7 ?hyq7 hHeld ?restq7
          case hiq7 => exact rfl
          case hqq7 => exact fun _ _ _ h => h
          case hyq7 =>
            refine Or.inl ⟨by rfl, ?_⟩
            intro w hSw
            go_simp
            (try with_reducible rfl)
          try simp only [Act.put, List.getElem_toArray, List.getElem_cons_succ, List.getElem_cons_zero, List.setIfInBounds_toArray, List.set_cons_zero, List.set_cons_succ]
          refine wpAnyH_take (i := 7) (oi := ?oiq8) (v := ?vq8) ?hiq8 (by kernel_rfl) (by decide +kernel) (by decide +kernel) ?hqq8 ?hyq8 hHeld ?restq8
          case hiq8 => exact rfl
          case hqq8 => exact fun _ _ _ h => h
          case hyq8 =>
            refine Or.inl ⟨by rfl, ?_⟩
            intro w hSw
            go_simp
            (try with_reducible rfl)
          try simp only [Act.put, List.getElem_toArray, List.getElem_cons_succ, List.getElem_cons_zero, List.setIfInBounds_toArray, List.set_cons_zero, List.set_cons_succ]
          refine wpAnyH_take (i := 8) (oi := ?oiq9) (v := .agg #[.int .i64 x.op, .int .i64 x.to, .int .i64 x.a, .int .i64 x.b]) ?hiq9 (by kernel_rfl) (by decide +kernel) (by decide +kernel) ?hqq9 ?hyq9 hHeld ?restq9
          case hiq9 => exact rfl
          case hqq9 => exact fun _ _ _ h => h
          case hyq9 =>
            refine Or.inl ⟨by rfl, ?_⟩
            intro w hSw
            have z0 := hSw.cell HBx.out.1 HBx.out.2.1 HBx.out.2.2 y0
            have z1 := hSw.cell HBx.out.1 HBx.out.2.1 HBx.out.2.2 y1
            have z2 := hSw.cell HBx.out.1 HBx.out.2.1 HBx.out.2.2 y2
            have z3 := hSw.cell HBx.out.1 HBx.out.2.1 HBx.out.2.2 y3
            go_simp
            (try with_reducible rfl)
          try simp only [Act.put, List.getElem_toArray, List.getElem_cons_succ, List.getElem_cons_zero, List.setIfInBounds_toArray, List.set_cons_zero, List.set_cons_succ]
          refine wpAnyH_take (i := 9) (oi := ?oiq10) (v := ?vq10) ?hiq10 (by kernel_rfl) (by decide +kernel) (by decide +kernel) ?hqq10 ?hyq10 hHeld ?restq10
          case hiq10 => exact rfl
          case hqq10 => exact fun _ _ _ h => h
          case hyq10 =>
            refine Or.inl ⟨by rfl, ?_⟩
            intro w hSw
            go_simp
            (try with_reducible rfl)
          try simp only [Act.put, List.getElem_toArray, List.getElem_cons_succ, List.getElem_cons_zero, List.setIfInBounds_toArray, List.set_cons_zero, List.set_cons_succ]
          refine wpAnyH_take (i := 10) (oi := ?oiq11) (v := ?vq11) ?hiq11 (by kernel_rfl) (by decide +kernel) (by decide +kernel) ?hqq11 ?hyq11 hHeld ?restq11
          case hiq11 => exact rfl
          case hqq11 => exact fun _ _ _ h => h
          case hyq11 =>
            refine Or.inl ⟨by rfl, ?_⟩
            intro w hSw
            go_simp
            (try with_reducible rfl)
          try simp only [Act.put, List.getElem_toArray, List.getElem_cons_succ, List.getElem_cons_zero, List.setIfInBounds_toArray, List.set_cons_zero, List.set_cons_succ]
          refine wpAnyH_take (i := 11) (oi := ?oiq12) (v := ?vq12) ?hiq12 (by kernel_rfl) (by decide +kernel) (by decide +kernel) ?hqq12 ?hyq12 hHeld ?restq12
          case hiq12 => exact rfl
          case hqq12 => exact fun _ _ _ h => h
          case hyq12 =>
            refine Or.inl ⟨by rfl, ?_⟩
            intro w hSw
            go_simp
            (try with_reducible rfl)
          try simp only [Act.put, List.getElem_toArray, List.getElem_cons_succ, List.getElem_cons_zero, List.setIfInBounds_toArray, List.set_cons_zero, List.set_cons_succ]
          refine wpAnyH_take (i := 12) (oi := ?oiq13) (v := .agg #[.int .i64 y.op, .int .i64 y.to, .int .i64 y.a, .int .i64 y.b]) ?hiq13 (by kernel_rfl) (by decide +kernel) (by decide +kernel) ?hqq13 ?hyq13 hHeld ?restq13
          case hiq13 => exact rfl
          case hqq13 => exact fun _ _ _ h => h
          case hyq13 =>
            refine Or.inl ⟨by rfl, ?_⟩
            intro w hSw
            have z0 := hSw.cell HBy.out.1 HBy.out.2.1 HBy.out.2.2 z0
            have z1 := hSw.cell HBy.out.1 HBy.out.2.1 HBy.out.2.2 z1
            have z2 := hSw.cell HBy.out.1 HBy.out.2.1 HBy.out.2.2 z2
            have z3 := hSw.cell HBy.out.1 HBy.out.2.1 HBy.out.2.2 z3
            go_simp
            (try with_reducible rfl)
          try simp only [Act.put, List.getElem_toArray, List.getElem_cons_succ, List.getElem_cons_zero, List.setIfInBounds_toArray, List.set_cons_zero, List.set_cons_succ]
          refine wpAnyH_ready (rs := [13]) (by kernel_rfl) (by simp) ?_
          refine AllReadyH.cons (o := ?or21_13) ?hr21_13 ?kr21_13 AllReadyH.nil
          case hr21_13 => exact rfl
          case kr21_13 =>
            intro K hK
            go_simp
            refine (HMl.out _).mono ?_
            rintro e wa ⟨rfl, hBa⟩
            have HI2 := Lib.hid (HI1.out.low hBa)
            have HKp := Lib.hid (HKp.out.low hBa)
            clear hBa
            refine hK.out _ _ HKp.out (fun hHeld => ?_)
            clear hK K
            try simp only [Act.put, List.getElem_toArray, List.getElem_cons_succ, List.getElem_cons_zero, List.setIfInBounds_toArray, List.set_cons_zero, List.set_cons_succ]
            refine wpAnyH_take (i := 14) (oi := ?oiq14) (v := ?vq14) ?hiq14 (by kernel_rfl) (by decide +kernel) (by decide +kernel) ?hqq14 ?hyq14 hHeld ?restq14
            case hiq14 => exact rfl
            case hqq14 => exact fun _ _ _ h => h
            case hyq14 =>
              refine Or.inl ⟨by rfl, ?_⟩
              intro w hSw
              go_simp
              (try with_reducible rfl)
            try simp only [Act.put, List.getElem_toArray, List.getElem_cons_succ, List.getElem_cons_zero, List.setIfInBounds_toArray, List.set_cons_zero, List.set_cons_succ]
            refine wpAnyH_take (i := 15) (oi := ?oiq15) (v := ?vq15) ?hiq15 (by kernel_rfl) (by decide +kernel) (by decide +kernel) ?hqq15 ?hyq15 hHeld ?restq15
            case hiq15 => exact rfl
            case hqq15 => exact fun _ _ _ h => h
            case hyq15 =>
              refine Or.inl ⟨by rfl, ?_⟩
              intro w hSw
              go_simp
              (try with_reducible rfl)
            try simp only [Act.put, List.getElem_toArray, List.getElem_cons_succ, List.getElem_cons_zero, List.setIfInBounds_toArray, List.set_cons_zero, List.set_cons_succ]
            refine wpAnyH_take (i := 16) (oi := ?oiq16) (v := ?vq16) ?hiq16 (by kernel_rfl) (by decide +kernel) (by decide +kernel) ?hqq16 ?hyq16 hHeld ?restq16
            case hiq16 => exact rfl
            case hqq16 => exact fun _ _ _ h => h
            case hyq16 =>
              refine Or.inl ⟨by rfl, ?_⟩
              intro w hSw
              go_simp
              (try with_reducible rfl)
            try simp only [Act.put, List.getElem_toArray, List.getElem_cons_succ, List.getElem_cons_zero, List.setIfInBounds_toArray, List.set_cons_zero, List.set_cons_succ]
            refine wpAnyH_take (i := 17) (oi := ?oiq17) (v := ?vq17) ?hiq17 (by kernel_rfl) (by decide +kernel) (by decide +kernel) ?hqq17 ?hyq17 hHeld ?restq17
            case hiq17 => exact rfl
            case hqq17 => exact fun _ _ _ h => h
            case hyq17 =>
              refine Or.inl ⟨by rfl, ?_⟩
              intro w hSw
              go_simp
              (try with_reducible rfl)
            try simp only [Act.put, List.getElem_toArray, List.getElem_cons_succ, List.getElem_cons_zero, List.setIfInBounds_toArray, List.set_cons_zero, List.set_cons_succ]
            refine wpAnyH_ready (rs := [18]) (by kernel_rfl) (by simp) ?_
            refine AllReadyH.cons (o := ?or20_18) ?hr20_18 ?kr20_18 AllReadyH.nil
            case hr20_18 => exact rfl
            case kr20_18 =>
              intro K hK
              rw [if_pos (by rfl)]
              refine wp_store_mid 63 (.tmp 67) (.tmp 65) rfl M (k * 4) #[.int .i64 m.op, .int .i64 m.to, .int .i64 m.a, .int .i64 m.b] rfl rfl (own_there (HI2.out.own HLen8.out) (by rw [HLen.out]; exact hlt)) info_ln HOne.out ?_
              have HI3 := Lib.hid (HI2.out.putL (by rw [HLen.out]; exact hlt) m)
              have HKp := Lib.hid (HKp.out.put M (.inl rfl) (k * 4) [.int .i64 m.op, .int .i64 m.to, .int .i64 m.a, .int .i64 m.b])
              refine hK.out _ _ HKp.out (fun hHeld => ?_)
              clear hK K
              try simp only [Act.put, List.getElem_toArray, List.getElem_cons_succ, List.getElem_cons_zero, List.setIfInBounds_toArray, List.set_cons_zero, List.set_cons_succ]
              refine wpAnyH_take (i := 19) (oi := ?oiq18) (v := ?vq18) ?hiq18 (by kernel_rfl) (by decide +kernel) (by decide +kernel) ?hqq18 ?hyq18 hHeld ?restq18
              case hiq18 => exact rfl
              case hqq18 => exact fun _ _ _ h => h
              case hyq18 =>
                refine Or.inl ⟨by rfl, ?_⟩
                intro w hSw
                go_simp
                (try with_reducible rfl)
              try simp only [Act.put, List.getElem_toArray, List.getElem_cons_succ, List.getElem_cons_zero, List.setIfInBounds_toArray, List.set_cons_zero, List.set_cons_succ]
              refine wpAnyH_ready (rs := [20]) (by kernel_rfl) (by simp) ?_
              refine AllReadyH.cons (o := ?or19_20) ?hr19_20 ?kr19_20 AllReadyH.nil
              case hr19_20 => exact rfl
              case kr19_20 =>
                intro K hK
                have m1 := hp_cell HI3.out.bb (bv_get (thSB ps xs ys k) k (by rw [HLenB.out]; exact hlt))
                have m2 := hp_free HI3.out.bb k
                go_simp
                have HIz := Lib.hid (HI3.out.putB k mb)
                have HKp := Lib.hid (HKp.out.put (M + 1) (.inr rfl) k [.bool mb])
                clear m1 m2
                refine hK.out _ _ HKp.out (fun hHeld => ?_)
                clear hK K
                try simp only [Act.put, List.getElem_toArray, List.getElem_cons_succ, List.getElem_cons_zero, List.setIfInBounds_toArray, List.set_cons_zero, List.set_cons_succ]
                refine wpAnyH_done (by kernel_rfl) ?_ _
                clear hHeld
                clear HKp HBox HBx HBy
                go_wp2_with fail
                go_roundw
                case rel => exact ⟨k + 1, by omega, by go_num, by rw [HSL.out, HSB.out]; exact HIz.out⟩
                case measure => simp [intOf]; omega
        · obtain rfl : k = ps.length := by omega
          have HPl := Lib.hid (places_any (M + 1) 0 (thSB ps xs ys ps.length).length (thSB ps xs ys ps.length) wr hI.bools (hp_lt hI.bb) (by rw [thSB_len ps xs ys (Nat.le_refl _)]; omega))
          rw [thSB_len ps xs ys (Nat.le_refl _)] at HPl
          have HLn := Lib.hid (hI.lines (by rw [thSL_len ps xs ys (Nat.le_refl _)]; exact h8))
          have HBe := Lib.hid hI.below
          have HLL := Lib.hid (show (thLto ps xs ys ps.length).length = ps.length by unfold thLto; rw [List.length_map, List.length_range])
          clear hI
          go_wp2_with fail
          refine HPl.out.mono ?_
          rintro e w2 ⟨a2, k2, rfl, ho, hB⟩
          have HZ2 := Lib.hid (ints_of_own ho).1
          have HB2 := Lib.hid (HBe.out.trans (hB.mono HBe.out.size))
          have HLn := Lib.hid (HLn.out.below hB (Nat.le_refl _))
          clear ho hB
          go_wp2_with fail
          go_ret3
          rw [thSL_end] at HLn
          rw [thSB_end] at HZ2 ⊢
          exact ⟨some ⟨M, 0, none⟩, ps.length, a2, k2, by rw [HLL.out]; rfl, HLn.out, HZ2.out, HB2.out⟩
    · have hzz : thC ps xs ys = 9 := by unfold thC; rw [← feL_three, if_pos hz, if_neg hl]
      have HE := Lib.hid (show thL ps xs ys = [] ∧ thN ps xs ys = [] from ⟨by unfold thL; rw [hzz]; rfl, by unfold thN; rw [hzz]; rfl⟩)
      rw [hzz, HE.out.1, HE.out.2]
      have HZ := Lib.hid hz
      generalize hc1 : vp ps = c1 at H1 HZ
      generalize hc2 : vp xs = c2 at H2 HZ
      generalize hc3 : vp ys = c3 at H3 HZ
      by_cases hl1 : xs.length = ps.length
      · have q1 : (((xs.length : Nat) : Int) != ((ps.length : Nat) : Int)) = false := by rw [hl1]; simp
        have q2 : (((ys.length : Nat) : Int) != ((ps.length : Nat) : Int)) = true := by simp; intro h; exact hl ⟨hl1, by omega⟩
        clear hz hl hl1 hzz HE hc1 hc2 hc3
        go_enter Tryz.func37, Tryz.ntmps37
        go_wp2_with fail
        refine (H1.out _ HP.out).mono ?_
        rintro e w1 ⟨rfl, hB1⟩
        have HB1 := Lib.hid hB1
        clear hB1 
        go_wp2_with fail
        refine (H2.out _ (HX.out.below HB1.out (Nat.le_refl _))).mono ?_
        rintro e w2 ⟨rfl, hB2⟩
        have HB2 := Lib.hid (HB1.out.trans (hB2.mono HB1.out.size))
        clear hB2 
        go_wp2_with fail
        refine (H3.out _ (HY.out.below HB2.out (Nat.le_refl _))).mono ?_
        rintro e w3 ⟨rfl, hB3⟩
        have HB3 := Lib.hid (HB2.out.trans (hB3.mono HB2.out.size))
        clear hB3 
        go_wp2_with fail
        refine (firstError3_at _ _ c1 c2 c3 (ints_three _ _ _ _ _)).mono ?_
        rintro e we3 ⟨rfl, hw4⟩
        have hB4 := HB3.out.alloc HB3.out.size (.cells #[.int .i64 c1, .int .i64 c2, .int .i64 c3] 28)
        rw [hw4] at hB4
        have HB4 := Lib.hid hB4
        clear hB4 hw4
        rw [HZ.out]
        go_wp2_with fail
        go_ret3
        exact ⟨none, 0, none, 0, rfl, .inl rfl, .inl rfl, HB4.out⟩
      · have q1 : (((xs.length : Nat) : Int) != ((ps.length : Nat) : Int)) = true := by simp; omega
        clear hz hl hl1 hzz HE hc1 hc2 hc3
        go_enter Tryz.func37, Tryz.ntmps37
        go_wp2_with fail
        refine (H1.out _ HP.out).mono ?_
        rintro e w1 ⟨rfl, hB1⟩
        have HB1 := Lib.hid hB1
        clear hB1 
        go_wp2_with fail
        refine (H2.out _ (HX.out.below HB1.out (Nat.le_refl _))).mono ?_
        rintro e w2 ⟨rfl, hB2⟩
        have HB2 := Lib.hid (HB1.out.trans (hB2.mono HB1.out.size))
        clear hB2 
        go_wp2_with fail
        refine (H3.out _ (HY.out.below HB2.out (Nat.le_refl _))).mono ?_
        rintro e w3 ⟨rfl, hB3⟩
        have HB3 := Lib.hid (HB2.out.trans (hB3.mono HB2.out.size))
        clear hB3 
        go_wp2_with fail
        refine (firstError3_at _ _ c1 c2 c3 (ints_three _ _ _ _ _)).mono ?_
        rintro e we3 ⟨rfl, hw4⟩
        have hB4 := HB3.out.alloc HB3.out.size (.cells #[.int .i64 c1, .int .i64 c2, .int .i64 c3] 28)
        rw [hw4] at hB4
        have HB4 := Lib.hid hB4
        clear hB4 hw4
        rw [HZ.out]
        go_wp2_with fail
        go_ret3
        exact ⟨none, 0, none, 0, rfl, .inl rfl, .inl rfl, HB4.out⟩
  · have hzz : thC ps xs ys = feL [vp ps, vp xs, vp ys] := by unfold thC; rw [← feL_three, if_neg hz]
    have HE := Lib.hid (show thL ps xs ys = [] ∧ thN ps xs ys = [] from ⟨by unfold thL; rw [hzz, if_neg hz], by unfold thN; rw [hzz, if_neg hz]⟩)
    rw [hzz, HE.out.1, HE.out.2]
    generalize hc1 : vp ps = c1 at *
    generalize hc2 : vp xs = c2 at *
    generalize hc3 : vp ys = c3 at *
    have hz1 : (feL [c1, c2, c3] != 0) = true := by simpa using hz
    clear hz hzz HE hc1 hc2 hc3
    go_enter Tryz.func37, Tryz.ntmps37
    go_wp2_with fail
    refine (H1.out _ HP.out).mono ?_
    rintro e w1 ⟨rfl, hB1⟩
    have HB1 := Lib.hid hB1
    clear hB1 
    go_wp2_with fail
    refine (H2.out _ (HX.out.below HB1.out (Nat.le_refl _))).mono ?_
    rintro e w2 ⟨rfl, hB2⟩
    have HB2 := Lib.hid (HB1.out.trans (hB2.mono HB1.out.size))
    clear hB2 
    go_wp2_with fail
    refine (H3.out _ (HY.out.below HB2.out (Nat.le_refl _))).mono ?_
    rintro e w3 ⟨rfl, hB3⟩
    have HB3 := Lib.hid (HB2.out.trans (hB3.mono HB2.out.size))
    clear hB3 
    go_wp2_with fail
    refine (firstError3_at _ _ c1 c2 c3 (ints_three _ _ _ _ _)).mono ?_
    rintro e we3 ⟨rfl, hw4⟩
    have hB4 := HB3.out.alloc HB3.out.size (.cells #[.int .i64 c1, .int .i64 c2, .int .i64 c3] 28)
    rw [hw4] at hB4
    have HB4 := Lib.hid hB4
    clear hB4 hw4
    go_wp2_with fail
    go_ret3
    exact ⟨none, 0, none, 0, rfl, .inl rfl, .inl rfl, HB4.out⟩

end Go.Proofs.YtdcoebeffbkpnaaGreat
