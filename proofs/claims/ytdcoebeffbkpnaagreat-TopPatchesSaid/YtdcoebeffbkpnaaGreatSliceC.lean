/- Several texts in one. -/
import Derived.Test.YtdcoebeffbkpnaaGreatRunC
import Derived.Test.YtdcoebeffbkpnaaGreatPlain
import Derived.RangeFuncNested
import Derived.RangeFuncBound
import Derived.RangeFuncCalls
import Derived.RangeFuncLeaves
import Derived.Shelf.Abstract
import Derived.Shelf.RegionOpen
import Derived.OwnWalkIn
import Derived.TacticsInMore
import Derived.LoopNIn
import Derived.LoopIn
import Derived.RangeFuncBox
/- matterBefore: contract. -/
set_option linter.unusedVariables false
set_option linter.unusedSimpArgs false
namespace Go.Proofs.YtdcoebeffbkpnaaGreat
open Go.RowKit Tinker

theorem bools4 {s : List Bool} (h : s.length = 4) : ∃ s0 s1 s2 s3, s = [s0, s1, s2, s3] := by
  match s, h with
  | [a, b, c, d], _ => exact ⟨a, b, c, d, rfl⟩

theorem idx_b4_0 (a b c d : Bool) (w : World) : (Instr.index 170 (.agg #[.bool a, .bool b, .bool c, .bool d]) (.int .i64 0)).run Tryz.prog w = .ok (.bool a) w := by kernel_rfl
theorem idx_b4_1 (a b c d : Bool) (w : World) : (Instr.index 170 (.agg #[.bool a, .bool b, .bool c, .bool d]) (.int .i64 1)).run Tryz.prog w = .ok (.bool b) w := by kernel_rfl
theorem idx_b4_2 (a b c d : Bool) (w : World) : (Instr.index 170 (.agg #[.bool a, .bool b, .bool c, .bool d]) (.int .i64 2)).run Tryz.prog w = .ok (.bool c) w := by kernel_rfl
theorem idx_b4_3 (a b c d : Bool) (w : World) : (Instr.index 170 (.agg #[.bool a, .bool b, .bool c, .bool d]) (.int .i64 3)).run Tryz.prog w = .ok (.bool d) w := by kernel_rfl
theorem idx_b4 (r : List Bool) (h : r.length = 4) (k : Nat) (hk : k < 4) : ∀ w, (Instr.index 170 (.agg (bv r)) (.int .i64 (k : Int))).run Tryz.prog w = .ok (.bool (r.getD k false)) w := by
  obtain ⟨a, b, c, d, rfl⟩ := bools4 h
  have hc : k = 0 ∨ k = 1 ∨ k = 2 ∨ k = 3 := by omega
  rcases hc with rfl | rfl | rfl | rfl
  · exact idx_b4_0 a b c d
  · exact idx_b4_1 a b c d
  · exact idx_b4_2 a b c d
  · exact idx_b4_3 a b c d

def mat1 (l : L) (m : List Bool) : List Bool := if Tinker.wr l then m.set l.to.toNat false else m
theorem mat1_length (l : L) (m : List Bool) : (mat1 l m).length = m.length := by unfold mat1; split <;> simp

set_option maxRecDepth 100000 in
set_option maxHeartbeats 1000000 in
theorem matterBefore_any (l : L) (m : List Bool) (w : World) (hl : isLn l = true) (hm : m.length = 4) :
    Calls Tryz.prog 153 #[lv l, .agg (bv m)] w fun e w' => e = .returned (.agg (bv (matB l m))) ∧ Below w.heap.size w w' := by
  have hw0 := fun w => writes_any l w hl
  have hr0 := fun w => reads_any l w hl
  have HW := Lib.hid hw0
  have HR := Lib.hid hr0
  have HM := Lib.hid hm
  have hto := fun h : Tinker.wr l = true => wr_to hl h
  unfold lv at HW HR ⊢
  clear hw0 hr0 hm
  go_enter Tryz.func153, Tryz.ntmps153
  go_upto_region 0 with fail
  go_cut [2, 3, 4] (fun s2 s3 s4 wx => ∃ A M R : Nat, s2 = .pointer (some ⟨A, 0, none⟩) ∧ s3 = .pointer (some ⟨M, 0, none⟩) ∧ s4 = .pointer (some ⟨R, 0, none⟩) ∧ w.heap.size ≤ M ∧ w.heap.size ≤ R ∧ M ≠ R ∧ A ≠ M ∧
    wx.heap[A]? = some (.cells #[.int .i64 l.op, .int .i64 l.to, .int .i64 l.a, .int .i64 l.b] 63 (0, 0)) ∧ wx.heap[M]? = some (.cells (bv m) 170 (0, 0)) ∧ wx.heap[R]? = some (.cells (bv [false, false, false, false]) 170 (0, 0)) ∧ Below w.heap.size w wx)
  case first =>
    go_wp2_with fail
    go_meet
    exact ⟨_, _, _, rfl, rfl, rfl, by omega, by omega, by omega, by omega, hp_alloc (hp_alloc (hp_new rfl)), hp_alloc (hp_new (by simp)), hp_new (by simp), (((Below.refl _ _).alloc (Nat.le_refl _) _).alloc (by simp) _).alloc (by simp; omega) _⟩
  case rest =>
    obtain ⟨A, M, R, rfl, rfl, rfl, hM, hR, hMR, hAM, bA, bM, bR, hB⟩ := hcut
    have a0 := hp_cell bA (j := 0) (by rfl)
    have a1 := hp_cell bA (j := 1) (by rfl)
    have a2 := hp_cell bA (j := 2) (by rfl)
    have a3 := hp_cell bA (j := 3) (by rfl)
    go_upto_if 8 with (go_at_call 152; refine (HW.out _).mono ?_; rintro e w1 ⟨rfl, hB1⟩)
    have lA := hp_lt bA
    have lM := hp_lt bM
    have lR := hp_lt bR
    have HA1 := Lib.hid (hp_below bA hB1 lA)
    have HM1 := Lib.hid (hp_below bM hB1 lM)
    have HR1 := Lib.hid (hp_below bR hB1 lR)
    have hB2 : Below w.heap.size w w1 := hB.trans (hB1.mono hB.size)
    clear bA bM bR a0 a1 a2 a3 hB hB1 lA lM lR
    go_cut [] (fun wx => wx.heap[A]? = some (.cells #[.int .i64 l.op, .int .i64 l.to, .int .i64 l.a, .int .i64 l.b] 63 (0, 0)) ∧ wx.heap[M]? = some (.cells (bv (mat1 l m)) 170 (0, 0)) ∧ wx.heap[R]? = some (.cells (bv [false, false, false, false]) 170 (0, 0)) ∧ Below w.heap.size w wx)
    case first =>
      cases hw : Tinker.wr l
      · have HE := Lib.hid (show mat1 l m = m by unfold mat1; rw [hw]; rfl)
        clear hw
        go_wp2_with fail
        go_meet
        rw [HE.out]
        exact ⟨HA1.out, HM1.out, HR1.out, hB2⟩
      · obtain ⟨td0, td1⟩ := hto hw
        have HE := Lib.hid (show mat1 l m = m.set l.to.toNat false by unfold mat1; rw [hw]; rfl)
        have a1 := hp_cell HA1.out (j := 1) (by rfl)
        have m1 := hp_cell HM1.out (bv_get m l.to.toNat (by rw [HM.out]; omega))
        have m2 := hp_free HM1.out l.to.toNat
        clear hw
        go_wp2_with fail
        go_meet
        rw [HE.out, ← bv_set]
        exact ⟨hp_set HA1.out hAM _, hp_put HM1.out _ _, hp_set HR1.out (fun e => hMR e.symm) _, hB2.setCell (p := ⟨M, _, none⟩) hM _⟩
    case rest =>
      clear HA1 HM1 HR1 hB2
      obtain ⟨bA, bM, bR, hB⟩ := hcut
      have a0 := hp_cell bA (j := 0) (by rfl)
      have a1 := hp_cell bA (j := 1) (by rfl)
      have a2 := hp_cell bA (j := 2) (by rfl)
      have a3 := hp_cell bA (j := 3) (by rfl)
      have HBM := Lib.hid bM
      have HBR := Lib.hid bR
      clear bA bM bR
      go_wp2_with fail
      refine (HR.out _).mono ?_
      rintro e w2 ⟨rfl, hB1⟩
      have HBM1 := Lib.hid (hp_below HBM.out hB1 (hp_lt HBM.out))
      have HBR1 := Lib.hid (hp_below HBR.out hB1 (hp_lt HBR.out))
      have hB2 : Below w.heap.size w w2 := hB.trans (hB1.mono hB.size)
      have HI := Lib.hid (idx_b4 (rd l) (rd_length l))
      clear HBM HBR hB1 hB a0 a1 a2 a3
      go_wp2_with fail
      go_loopw [14] (fun s14 wr => ∃ k : Nat, k ≤ 4 ∧ s14 = .int .i64 k ∧ wr.heap[M]? = some (.cells (bv (orTo (rd l) (mat1 l m) k)) 170 (0, 0)) ∧ wr.heap[R]? = some (.cells (bv [false, false, false, false]) 170 (0, 0)) ∧ Below w.heap.size w wr) (fun s14 _ => 4 - (intOf s14).toNat)
      case atStart => exact ⟨0, by omega, rfl, HBM1.out, HBR1.out, hB2⟩
      case round =>
        obtain ⟨k, hk, rfl, bM, bR, hB⟩ := hrel
        clear HBM1 HBR1 hB2
        have HBM := Lib.hid bM
        have HBR := Lib.hid bR
        clear bM bR
        by_cases hlt : k < 4
        · have hi := HI.out k hlt
          have m1 := hp_cell HBM.out (bv_get _ k (by rw [orTo_length, mat1_length, HM.out]; omega))
          have m2 := hp_free HBM.out k
          generalize hx : (rd l).getD k false = x at hi
          cases x
          · have HE := Lib.hid (show orTo (rd l) (mat1 l m) (k + 1) = orTo (rd l) (mat1 l m) k by rw [orTo, hx]; rfl)
            clear hx
            go_wp2_with fail
            go_roundw
            case rel => exact ⟨k + 1, by omega, by go_num, by rw [HE.out]; exact HBM.out, HBR.out, hB⟩
            case measure => simp [intOf]; omega
          · have HE := Lib.hid (show orTo (rd l) (mat1 l m) (k + 1) = (orTo (rd l) (mat1 l m) k).set k true by rw [orTo, hx]; rfl)
            clear hx
            go_wp2_with fail
            go_roundw
            case rel => exact ⟨k + 1, by omega, by go_num, by rw [HE.out, ← bv_set]; exact hp_put HBM.out _ _, hp_set HBR.out (fun e => hMR e.symm) _, hB.setCell (p := ⟨M, _, none⟩) hM _⟩
            case measure => simp [intOf]; omega
        · obtain rfl : k = 4 := by omega
          have HI4 := Lib.hid (info_bv4 (l := orTo (rd l) (mat1 l m) 4) (by rw [orTo_length, mat1_length, HM.out]))
          have HZ := Lib.hid (show (bv [false, false, false, false]).size = (bv (orTo (rd l) (mat1 l m) 4)).size by rw [bv_size, bv_size, orTo_length, mat1_length, HM.out]; rfl)
          go_wp2_with (first | (refine wpList_load_row rfl 170 (.tmp 3) rfl M rfl 170 _ (0, 0) _ HBM.out Tryz.underlying170 rfl HI4.out ?_) | (refine wpList_store_row rfl 170 (.tmp 4) (.tmp 22) rfl R _ rfl rfl 170 _ HBR.out HI4.out HZ.out (bv_one _) ?_))
          have K := hp_row_same HBR.out (bv (orTo (rd l) (mat1 l m) 4))
          refine bodyPost_ret (v := .agg (bv (orTo (rd l) (mat1 l m) 4))) ?_ rfl ⟨rfl, below_setRow hB hR _⟩
          exact results_cell_row (p := 4) (ty := 170) rfl _ _ R 170 _ (0, 0) _ (by simp [Act.put]) K Tryz.underlying170 rfl HI4.out

end Go.Proofs.YtdcoebeffbkpnaaGreat

/- slices.Backward over the lines of a program: the iterator's contract. -/
set_option linter.unusedVariables false
set_option linter.unusedSimpArgs false
namespace Go.Proofs.YtdcoebeffbkpnaaGreat
open Go.RowKit Go.Shelf Tinker
attribute [local go_sem] Oper.semAt_some

/-- A line of a program, with its number. -/
abbrev NL := { x : Nat × L // x.1 < 8 ∧ isLn x.2 = true }
def encNL (x : NL) : Array Value := #[.int .i64 (x.1.1 : Int), .agg #[.int .i64 x.1.2.op, .int .i64 x.1.2.to, .int .i64 x.1.2.a, .int .i64 x.1.2.b]]

/-- The lines rs, from the last one to the first one, lie at a slice's address. -/
def BackAt (W : World) (b off len : Nat) (rs : List NL) : Prop := rs.length = len ∧ ∀ j x, rs[j]? = some x → x.1.1 = len - 1 - j ∧
  W.cell? ⟨b, off + (len - 1 - j) * 4, none⟩ = some (.int .i64 x.1.2.op) ∧ W.cell? ⟨b, off + (len - 1 - j) * 4 + 1, none⟩ = some (.int .i64 x.1.2.to) ∧
  W.cell? ⟨b, off + (len - 1 - j) * 4 + 2, none⟩ = some (.int .i64 x.1.2.a) ∧ W.cell? ⟨b, off + (len - 1 - j) * 4 + 3, none⟩ = some (.int .i64 x.1.2.b)

/-- What a round keeps: what lay below n₀, and the block Bs. -/
def KpB (n₀ Bs : Nat) (W W' : World) : Prop := Below n₀ W W' ∧ W'.heap[Bs]? = W.heap[Bs]?

set_option maxRecDepth 100000 in
set_option maxHeartbeats 2000000 in
theorem back1_in (n : Nat) (hn : 1 ≤ n) (l Bs n₀ b off len cap : Nat) (a : Option Addr) (rs : List NL) (hlen : len ≤ 8) (ha : 0 < len → a = some ⟨b, off, none⟩ ∧ b < n₀) (J Jx : List NL → World → Prop)
    (hY : ∀ pre x W, J pre W → pre.length < len → YieldAt Fence.wide (n - 1) Tryz.prog l (encNL x) W fun e W' =>
      (e = .returned (.bool true) ∧ J (pre ++ [x]) W' ∧ KpB n₀ Bs W W') ∨ (e = .returned (.bool false) ∧ Jx (pre ++ [x]) W'))
    (W : World) (hBs : W.cell? ⟨Bs, 0, none⟩ = some (.slice a len cap)) (hc : BackAt W b off len rs) (h0 : J [] W) :
    CallsIn Fence.wide n Tryz.prog 173 #[.func (.yield l) #[] #[], .pointer (some ⟨Bs, 0, none⟩)] W fun e W' => (∃ v, e = .returned v) ∧
      ((∃ ys, ys = rs ∧ J ys W') ∨ (∃ pre, pre <+: rs ∧ Jx pre W')) := by
  refine callsIn_of_wp Tryz.func173 rfl trivial ?_ rfl
  simp only [Tryz.ntmps173, List.size_toArray, List.length_cons, List.length_nil, Nat.reduceAdd, Nat.reduceSub, Array.replicate_succ, Array.replicate_zero, List.push_toArray, List.append_toArray, List.nil_append, List.cons_append]
  gi_wp2
  gi_loopw [3] (fun i wr => ∃ (j : Nat) (m : Int), i = .int .i64 m ∧ j ≤ len ∧ (len : Int) - 1 - j ≤ m ∧ m ≤ (len : Int) - 1 - j ∧ J (rs.take j) wr ∧ KpB n₀ Bs W wr)
    (fun i _ => (intOf i + 1).toNat)
  case atStart => exact ⟨0, _, rfl, by omega, by omega, by omega, h0, ⟨Below.refl _ _, rfl⟩⟩
  case round =>
    obtain ⟨j, m, rfl, hj, hm1, hm2, hJs, hnx⟩ := hrel
    have hB0 := (World.cell?_of_block (w := W) (w' := wr) (a := ⟨Bs, 0, none⟩) hnx.2).trans hBs
    by_cases hlt : j < len
    · obtain ⟨rfl, hb⟩ := ha (by omega)
      obtain ⟨x, hx⟩ := get_of_lt (show j < rs.length by have := hc.1; omega)
      obtain ⟨e0, c0, c1, c2, c3⟩ := hc.2 j x hx
      have hx1 := x.2.1
      have em : m = (x.1.1 : Int) := by omega
      subst em
      have d0 := (hnx.1.cell (p := ⟨b, _, none⟩) hb).trans c0
      have d1 := (hnx.1.cell (p := ⟨b, _, none⟩) hb).trans c1
      have d2 := (hnx.1.cell (p := ⟨b, _, none⟩) hb).trans c2
      have d3 := (hnx.1.cell (p := ⟨b, _, none⟩) hb).trans c3
      rw [← e0] at d0 d1 d2 d3
      obtain ⟨fn, tmps, assign, body, hy, hR⟩ := hY _ x wr hJs (by rw [List.length_take]; have := hc.1; omega)
      unfold encNL at hy
      have HX := Lib.hid hx
      have HC := Lib.hid hc
      have hxl : x.1.1 < len := by omega
      clear hx hc e0 c0 c1 c2 c3 ha
      generalize hA : x.1.1 = xi at *
      generalize hL : x.1.2 = xl at *
      clear hA hL
      gi_wp2
      refine hR.mono ?_
      rintro e W3 (⟨rfl, hJ3, hk3⟩ | ⟨rfl, hJx3⟩)
      · rw [← take_snoc HX.out] at hJ3
        have HJ := Lib.hid hJ3
        clear hJ3
        gi_wp2
        go_roundw
        case rel => exact ⟨j + 1, _, rfl, by omega, by omega, by omega, HJ.out, hnx.1.trans hk3.1, hk3.2.trans hnx.2⟩
        case measure => simp [intOf]
      · rw [← take_snoc HX.out] at hJx3
        have HJ := Lib.hid hJx3
        clear hJx3
        gi_wp2
        refine bodyPost_ret (results_none rfl _ _ _) rfl ?_
        exact ⟨⟨_, rfl⟩, .inr ⟨_, List.take_prefix _ _, HJ.out⟩⟩
    · clear ha
      have hneg : m < 0 := by omega
      have ht : rs.take j = rs := List.take_of_length_le (by have := hc.1; omega)
      rw [ht] at hJs
      have HJ := Lib.hid hJs
      clear hJs ht
      gi_wp2
      go_end0
      exact ⟨⟨_, rfl⟩, .inl ⟨_, rfl, HJ.out⟩⟩

theorem back_stops (n : Nat) (hn : 1 ≤ n) (Bs n₀ b off len cap : Nat) (a : Option Addr) (rs : List NL) (w : World) (hlen : len ≤ 8) (ha : 0 < len → a = some ⟨b, off, none⟩ ∧ b < n₀) (hBn : Bs < w.heap.size) (hn₀ : n₀ ≤ w.heap.size)
    (hBs : w.cell? ⟨Bs, 0, none⟩ = some (.slice a len cap)) (hc : BackAt w b off len rs) :
    SeqStopsK Fence.wide n Tryz.prog 173 #[.pointer (some ⟨Bs, 0, none⟩)] encNL (KpB n₀ Bs) (fun ys => ys = rs) (fun pre => pre <+: rs) len w := fun l J Jx W hW _ _ hY h0 => by
  refine back1_in n hn l Bs n₀ b off len cap a rs hlen ha J Jx hY W ((hW.cell (p := ⟨Bs, 0, none⟩) (by show Bs < _; omega)).trans hBs) ⟨hc.1, fun j x hx => ?_⟩ h0
  have hl : j < len := by have := (List.getElem?_eq_some_iff.1 hx).1; have := hc.1; omega
  have hb := (ha (by omega)).2
  obtain ⟨e0, c0, c1, c2, c3⟩ := hc.2 j x hx
  exact ⟨e0, (hW.cell (p := ⟨b, _, none⟩) (by show b < _; omega)).trans c0, (hW.cell (p := ⟨b, _, none⟩) (by show b < _; omega)).trans c1, (hW.cell (p := ⟨b, _, none⟩) (by show b < _; omega)).trans c2, (hW.cell (p := ⟨b, _, none⟩) (by show b < _; omega)).trans c3⟩

set_option maxHeartbeats 1000000 in
theorem backward_any (a : Option Addr) (len cap : Nat) (w : World) :
    Calls Tryz.prog 151 #[.slice a len cap] w fun e w' => e = .returned (.func (.func 173) #[] #[.pointer (some ⟨w.heap.size, 0, none⟩)]) ∧ w.alloc (.cells #[.slice a len cap] 22) = w' := by
  go_enter Tryz.func151, Tryz.ntmps151
  go_wp2
  go_ret
  exact ⟨rfl, rfl⟩

end Go.Proofs.YtdcoebeffbkpnaaGreat

/- Slice: contract. -/
set_option linter.unusedVariables false
set_option linter.unusedSimpArgs false
namespace Go.Proofs.YtdcoebeffbkpnaaGreat
open Go.RowKit Go.Shelf Tinker
attribute [local go_sem] Oper.semAt_some

section
variable {P : Program} {Fn : Fence} {n : Nat}
/-- A whole variable read and written inside a fence, outside every round. -/
theorem wpListIn_load_row {ops : Array Oper} {rest : List Oper} {o : Oper} {a : Act} {w : World} {Q : Exit → Act → World → Prop} (hgd : o.guard = none) (ty : TypeId) (x : Operand) (ho : o.op = .load ty x)
    (g : Nat) (hx : a.eval x = .pointer (some ⟨g, 0, none⟩)) (t : TypeId) (cs : Array Value) (fr : Nat × Nat) (d : TypeDesc) (hg : w.heap[g]? = some (.cells cs t fr))
    (hu : P.underlying ty = some d) (hd : (match d with | .struct _ | .array _ _ => true | _ => false) = true) (hi : (P.info? ty).map (·.size) = some cs.size)
    (h : wpListIn Fn n P ops Q rest (a.put o.dst (.agg cs)) w) : wpListIn Fn n P ops Q (o :: rest) a w := by
  refine wpListIn_plain hgd fun K hK' => ?_
  unfold Oper.wpIn
  refine ⟨?_, ?_⟩
  · simp [Oper.about, ho]
  · rw [Oper.semAt_plain _ _ _ (by rw [ho]; intro c hc'; cases hc')]
    simp only [execOp, ho, hx, Instr.loadAt, Instr.sureAddr, Sem.run_bind, Sem.run_pure, Result.andThen_ok, run_loadVar_row w g t ty cs fr d hg hu hd hi]
    exact hK' _ _ h
theorem wpListIn_store_row {ops : Array Oper} {rest : List Oper} {o : Oper} {a : Act} {w : World} {Q : Exit → Act → World → Prop} (hgd : o.guard = none) (ty : TypeId) (x y : Operand) (ho : o.op = .store ty x y)
    (g : Nat) (cells : Array Value) (hx : a.eval x = .pointer (some ⟨g, 0, none⟩)) (hy : a.eval y = .agg cells)
    (t : TypeId) (old : Array Value) (hg : w.heap[g]? = some (.cells old t (0, 0))) (hi : (P.info? ty).map (·.size) = some cells.size)
    (hold : old.size = cells.size) (h1 : cells.all (·.oneCell') = true)
    (h : wpListIn Fn n P ops Q rest (a.put o.dst undef) (w.setRow g cells)) : wpListIn Fn n P ops Q (o :: rest) a w := by
  refine wpListIn_plain hgd fun K hK' => ?_
  unfold Oper.wpIn
  refine ⟨?_, ?_⟩
  · simp [Oper.about, ho]
  · rw [Oper.semAt_plain _ _ _ (by rw [ho]; intro c hc'; cases hc')]
    simp only [execOp, ho, hx, hy, Instr.storeAt, Instr.sureAddr, Sem.run_bind, Sem.run_pure, Result.andThen_ok, run_storeVar_row w g t ty old cells hg hi hold h1]
    exact hK' _ _ h
end

theorem own_heap {β : Type} (g : Nat) (o : β → Obj) (hc : ∀ s, (o s).isCells = true) : Own (fun s W => W.heap[g]? = some (o s)) := fun s X Y row hs hg hrow =>
  (hg.block g (hp_lt hs) (fun e => by obtain ⟨o', ho, h⟩ := hrow g e.symm; rw [hs] at ho; cases ho; rw [hc s] at h; cases h)).trans hs
theorem keeps_below {W W' : World} (h : Below W.heap.size W W') : KeepsOthers W W' := ⟨h.size, fun k o hk _ => (h.block k (hp_lt hk)).trans hk⟩
theorem keeps_row {W : World} {g : Nat} {cs : Array Value} {t : TypeId} (h : W.heap[g]? = some (.cells cs t (0, 0))) (c : Array Value) : KeepsOthers W (W.setRow g c) :=
  ⟨by simp, fun k o hk ho => by
    by_cases e : k = g
    · subst e; rw [h] at hk; cases hk; cases ho
    · exact (setRow_other W g k c e).trans hk⟩

/-- What is known of the slice so far. -/
def slF (D : List Bool) (r : Nat) (pre : List NL) : List Bool × List Bool := (pre.map Subtype.val).foldl (stSl D) (sl0 r)
theorem slF_snoc (D : List Bool) (r : Nat) (pre : List NL) (x : NL) : slF D r (pre ++ [x]) = stSl D (slF D r pre) x.1 := by simp [slF]
theorem sl0_1 (r : Nat) : (sl0 r).1.length = 4 := by simp [sl0]
theorem slF_1 (D : List Bool) (r : Nat) (pre : List NL) : (slF D r pre).1.length = 4 := by unfold slF; rw [(foldSl_length D _ _).1]; exact sl0_1 r
theorem slF_2 (D : List Bool) (r : Nat) (pre : List NL) : (slF D r pre).2.length = 8 := by unfold slF; rw [(foldSl_length D _ _).2]; simp [sl0]

/-- The state of the loop: the course, what matters, the slice, the box of the program. -/
structure SlI (cs : Array Value) (D : List Bool) (r C M S Bs : Nat) (bx : Value) (w : World) (st : List Bool × List Bool) (W : World) : Prop where
  bC : W.heap[C]? = some (.cells cs 166 (0, 0))
  bM : W.heap[M]? = some (.cells (bv st.1) 170 (0, 0))
  bS : W.heap[S]? = some (.cells (bv st.2) 158 (0, 0))
  bB : W.heap[Bs]? = some (.cells #[bx] 22 (0, 0))
  below : Below w.heap.size w W
theorem slI_own (cs : Array Value) (D : List Bool) (r C M S Bs : Nat) (bx : Value) (w : World) (B : Nat) (hB : w.heap.size ≤ B) : OwnFrom B (fun (pre : List NL) W => SlI cs D r C M S Bs bx w (slF D r pre) W) := fun pre X Y row hs hg hr =>
  ⟨(own_heap C (fun _ : Unit => .cells cs 166 (0, 0)) (fun _ => rfl)) () X Y row hs.bC hg (fun k e => (hr k e).2), (own_heap M (fun _ : Unit => .cells (bv (slF D r pre).1) 170 (0, 0)) (fun _ => rfl)) () X Y row hs.bM hg (fun k e => (hr k e).2),
   (own_heap S (fun _ : Unit => .cells (bv (slF D r pre).2) 158 (0, 0)) (fun _ => rfl)) () X Y row hs.bS hg (fun k e => (hr k e).2), (own_heap Bs (fun _ : Unit => .cells #[bx] 22 (0, 0)) (fun _ => rfl)) () X Y row hs.bB hg (fun k e => (hr k e).2),
   hs.below.grown hg hs.below.size (fun k e => Nat.le_trans hB (hr k e).1)⟩
theorem SlI.lower {cs : Array Value} {D : List Bool} {r C M S Bs : Nat} {bx : Value} {w : World} {st : List Bool × List Bool} {W W' : World} (h : SlI cs D r C M S Bs bx w st W) (hb : Below W.heap.size W W') : SlI cs D r C M S Bs bx w st W' :=
  ⟨hp_below h.bC hb (hp_lt h.bC), hp_below h.bM hb (hp_lt h.bM), hp_below h.bS hb (hp_lt h.bS), hp_below h.bB hb (hp_lt h.bB), h.below.trans (hb.mono h.below.size)⟩
theorem SlI.alloc {cs : Array Value} {D : List Bool} {r C M S Bs : Nat} {bx : Value} {w : World} {st : List Bool × List Bool} {W : World} (h : SlI cs D r C M S Bs bx w st W) (o : Obj) : SlI cs D r C M S Bs bx w st (W.alloc o) :=
  h.lower ((Below.refl _ _).alloc (Nat.le_refl _) o)
theorem SlI.putS {cs : Array Value} {D : List Bool} {r C M S Bs : Nat} {bx : Value} {w : World} {st : List Bool × List Bool} {W : World} (h : SlI cs D r C M S Bs bx w st W) (hS : w.heap.size ≤ S) (hn : S ≠ C ∧ S ≠ M ∧ S ≠ Bs) (i : Nat) (x : Bool) : SlI cs D r C M S Bs bx w (st.1, st.2.set i x) (W.setCell ⟨S, i, none⟩ (.bool x)) :=
  ⟨hp_set h.bC (fun e => hn.1 e.symm) _, hp_set h.bM (fun e => hn.2.1 e.symm) _, by rw [← bv_set]; exact hp_put h.bS i _, hp_set h.bB (fun e => hn.2.2 e.symm) _, h.below.setCell (p := ⟨S, i, none⟩) hS _⟩
theorem SlI.rowM {cs : Array Value} {D : List Bool} {r C M S Bs : Nat} {bx : Value} {w : World} {st : List Bool × List Bool} {W : World} (h : SlI cs D r C M S Bs bx w st W) (hM : w.heap.size ≤ M) (hn : M ≠ C ∧ M ≠ S ∧ M ≠ Bs) (m : List Bool) : SlI cs D r C M S Bs bx w (m, st.2) (W.setRow M (bv m)) :=
  ⟨hp_row h.bC (fun e => hn.1 e.symm) _, hp_row_same h.bM _, hp_row h.bS (fun e => hn.2.1 e.symm) _, hp_row h.bB (fun e => hn.2.2 e.symm) _, below_setRow h.below hM _⟩

theorem no_undef {b : Bool} (h : some undef = some (Value.bool b)) : False := by simp [undef] at h
theorem false4 (r : Int) (h0 : 0 ≤ r) (h3 : r ≤ 3) : [Value.bool false, .bool false, .bool false, .bool false][r.toNat]? = some (.bool false) := by
  have h : r = 0 ∨ r = 1 ∨ r = 2 ∨ r = 3 := by omega
  rcases h with rfl | rfl | rfl | rfl <;> rfl
theorem set4 (r : Nat) : ([Value.bool false, .bool false, .bool false, .bool false].set r (.bool true)).toArray = bv ([false, false, false, false].set r true) := by simp [bv, List.map_set]

/-- The lines of a valid program, with their numbers, from the last one to the first one. -/
theorem back_lines (ps : List L) (h8 : ps.length ≤ 8) (hv : ∀ l ∈ ps, isLn l = true) : ∃ rs : List NL, rs.map Subtype.val = backL ps ∧ rs.length = ps.length ∧ ∀ j x, rs[j]? = some x → x.1.1 = ps.length - 1 - j ∧ ps[ps.length - 1 - j]? = some x.1.2 := by
  have hb : ∀ y ∈ backL ps, y.1 < 8 ∧ isLn y.2 = true := by
    intro y hy
    simp only [backL, List.mem_reverse, List.mem_map, List.mem_range] at hy
    obtain ⟨i, hi, rfl⟩ := hy
    refine ⟨by omega, hv _ ?_⟩
    obtain ⟨l, hl⟩ := get_of_lt hi
    rw [getD_of_get hl]; exact mem_of_get hl
  refine ⟨(backL ps).attach.map (fun y => ⟨y.1, hb y.1 y.2⟩), ?_, by simp [backL], fun j x hx => ?_⟩
  · rw [List.map_map]; exact List.attach_map_subtype_val _
  · have hj : j < ps.length := by have := (List.getElem?_eq_some_iff.1 hx).1; simpa [backL] using this
    have h1 : (backL ps)[j]? = some x.1 := by
      have h2 : ((backL ps).attach.map (fun y => (⟨y.1, hb y.1 y.2⟩ : NL))).map Subtype.val = backL ps := by rw [List.map_map]; exact List.attach_map_subtype_val _
      rw [← h2, List.getElem?_map, hx]; rfl
    unfold backL at h1
    rw [List.getElem?_reverse (by simpa using hj)] at h1
    simp only [List.length_map, List.length_range, List.getElem?_map] at h1
    rw [List.getElem?_range (by omega)] at h1
    simp only [Option.map_some, Option.some.injEq] at h1
    obtain ⟨l, hl⟩ := get_of_lt (show ps.length - 1 - j < ps.length by omega)
    rw [getD_of_get hl] at h1
    rw [← h1]
    exact ⟨rfl, hl⟩

set_option maxRecDepth 100000 in
set_option maxHeartbeats 2000000 in
theorem slice_ok (a b : Option Addr) (ca cb : Nat) (ps : List L) (s : List Int) (r : Int) (w : World) (hp : LinesAt w a ps) (hs : IntsAt w b s) (hm : s.length ≤ 9223372036854775806) (hz : vr ps s = 0) (hr0 : 0 ≤ r) (hr3 : r ≤ 3) :
    Calls Tryz.prog 108 #[.slice a ps.length ca, .slice b s.length cb, .int .i64 r] w (GivesIntsE (plc (sliceB ps (doneL (runS ps s)) r.toNat)) 0 w) := by
  have hok := runE_ok hz
  have h4 := (vs_ok (vr_ok hz).2).1
  have hvl := (vp_ok (vr_ok hz).1)
  have HV := Lib.hid (validateRun_any a b ca cb ps s w hp hs hm)
  have HA := Lib.hid (fun w => allows_any 1 r w)
  have HF := Lib.hid (fun w hp => follow_no a ca ps s w hp hz)
  have HS := Lib.hid (fun w hs => stateOf_any b cb s w h4 hs)
  have HZ := Lib.hid hz
  have H4 := Lib.hid hok.1
  have HR := Lib.hid (show allowsK 1 r = true by simp [allowsK, isReg_iff, hr0, hr3])
  clear h4 hz hok
  refine (callsIn_wide (n := 5)).1 ?_
  refine callsIn_of_wp_marks Tryz.func108 rfl trivial ?_ rfl
  simp only [Tryz.ntmps108, List.size_toArray, List.length_cons, List.length_nil, Nat.reduceAdd, Nat.reduceSub, Array.replicate_succ, Array.replicate_zero, List.push_toArray, List.append_toArray, List.nil_append, List.cons_append]
  gi_wp2_with fail
  refine ⟨trivial, ?_⟩
  gi_at_call 127
  refine (callsIn_wide.2 HV.out).mono ?_
  rintro e w1 ⟨rfl, hB1⟩
  rw [HZ.out]
  gi_wp2_with fail
  refine ⟨trivial, ?_⟩
  gi_at_call 150
  refine (callsIn_wide.2 (HA.out _)).mono ?_
  rintro e w' ⟨rfl, rfl⟩
  rw [HR.out]
  gi_wp2_with fail
  refine ⟨trivial, ?_⟩
  gi_at_call 130
  refine (callsIn_wide.2 (HS.out _ (hs.below hB1 (Nat.le_refl _)))).mono ?_
  rintro e w2 ⟨rfl, hB2⟩
  have hB3 := hB1.trans (hB2.mono hB1.size)
  gi_wp2_with fail
  refine ⟨trivial, ?_⟩
  gi_at_call 129
  refine (callsIn_wide.2 (HF.out _ (hp.below hB3 (Nat.le_refl _)))).mono ?_
  rintro e w3 ⟨rfl, hB4⟩
  have hB5 := hB3.trans (hB4.mono hB3.size)
  have HI := Lib.hid (info_cr' (b := befL (runS ps s)) H4.out (doneL_length (runS ps s)) (befL_length _))
  have HZ2 := Lib.hid (cv_size (b := befL (runS ps s)) H4.out (doneL_length (runS ps s)) (befL_length _))
  have hf4 := false4 r hr0 hr3
  have hr4 : r < 4 := by omega
  clear hB1 hB2 hB3 hB4
  gi_wp2_with (refine wpListIn_store_row rfl 166 (.tmp 9) (.tmp 27) rfl _ _ rfl rfl 166 _ (hp_new rfl) HI.out (by rw [HZ2.out]; rfl) (cv_one _ _ _) ?_)
  refine ⟨trivial, ?_⟩
  gi_at_call 151
  refine (callsIn_wide.2 (backward_any _ _ _ _)).mono ?_
  rintro e w4 ⟨rfl, hw4⟩
  rw [set4] at hw4
  clear hf4
  simp only [World.size_alloc, size_setRow]
  have hD := doneL_length (runS ps s)
  generalize hDD : doneL (runS ps s) = D at *
  have hI0 : SlI (cv (runE ps s) D (befL (runS ps s))) D r.toNat w3.heap.size (w3.heap.size + 1) (w3.heap.size + 1 + 1) (w3.heap.size + 1 + 1 + 1) (.slice a ps.length ca) w (sl0 r.toNat) w4 := by
    rw [← hw4]
    refine ⟨?_, ?_, ?_, ?_, ?_⟩
    · exact hp_alloc (hp_alloc (hp_alloc (hp_row_same (hp_new rfl) _)))
    · exact hp_alloc (hp_alloc (hp_new (by simp)))
    · exact hp_alloc (hp_new (by simp))
    · exact hp_new (by simp)
    · exact (((below_setRow (hB5.alloc hB5.size _) hB5.size _).alloc (by have := hB5.size; simp; omega) _).alloc (by have := hB5.size; simp; omega) _).alloc (by have := hB5.size; simp; omega) _
  have hsz : w4.heap.size = w3.heap.size + 4 := by rw [← hw4]; simp
  have hw3 := hB5.size
  have HB4 := hI0.below
  clear hw4 hB5
  generalize w3.heap.size = C at *
  obtain ⟨rs, hrs1, hrs2, hrs3⟩ := back_lines ps hvl.1 hvl.2
  have hpa : ∃ pb off, 0 < ps.length → a = some ⟨pb, off, none⟩ ∧ pb < w.heap.size ∧ ∀ j l, ps[j]? = some l →
      w.cell? ⟨pb, off + j * 4, none⟩ = some (.int .i64 l.op) ∧ w.cell? ⟨pb, off + j * 4 + 1, none⟩ = some (.int .i64 l.to) ∧ w.cell? ⟨pb, off + j * 4 + 2, none⟩ = some (.int .i64 l.a) ∧ w.cell? ⟨pb, off + j * 4 + 3, none⟩ = some (.int .i64 l.b) := by
    rcases hp with rfl | ⟨pb, off, h1, h2, h3⟩
    · exact ⟨0, 0, fun h => by simp at h⟩
    · exact ⟨pb, off, fun _ => ⟨h1, h2, h3⟩⟩
  obtain ⟨pb, off, hpa⟩ := hpa
  have hseq := back_stops 4 (by omega) (C + 1 + 1 + 1) w.heap.size pb off ps.length ca a rs w4 hvl.1 (fun h => ⟨(hpa h).1, (hpa h).2.1⟩) (by omega) HB4.size (hp_cell hI0.bB (by rfl)) ⟨hrs2, fun j x hx => by
    have hj : j < ps.length := by have := (List.getElem?_eq_some_iff.1 hx).1; omega
    obtain ⟨g1, g2, g3⟩ := hpa (by omega)
    obtain ⟨e1, e2⟩ := hrs3 j x hx
    obtain ⟨c0, c1, c2, c3⟩ := g3 _ _ e2
    exact ⟨e1, (HB4.cell (p := ⟨pb, _, none⟩) g2).trans c0, (HB4.cell (p := ⟨pb, _, none⟩) g2).trans c1, (HB4.cell (p := ⟨pb, _, none⟩) g2).trans c2, (HB4.cell (p := ⟨pb, _, none⟩) g2).trans c3⟩⟩
  have HSEQ := Lib.hid hseq
  have HI1 := Lib.hid hI0
  have HDD := Lib.hid hDD
  have HD := Lib.hid hD
  have HRS := Lib.hid hrs1
  clear hseq hI0 hDD hD hrs1 hrs3 hpa hp hs hvl
  gi_wp2_with fail
  refine wpIn_rangeFunc_ownH rfl (by omega) (gf := 173) (lb := #[.pointer (some ⟨C + 1 + 1 + 1, 0, none⟩)]) rfl trivial (enters_of Tryz.func173 (by kernel_rfl) rfl) HSEQ.out ?kt ?kb (Below.refl _ _) (fun _ => rfl)
    (fun pre W => SlI (cv (runE ps s) D (befL (runS ps s))) D r.toNat C (C + 1) (C + 1 + 1) (C + 1 + 1 + 1) (.slice a ps.length ca) w (slF D r.toNat pre) W)
    (fun _ _ _ => False)
    (slI_own _ _ _ _ _ _ _ _ _ _ HB4.size)
    (fun _ _ _ _ _ hs _ _ => hs)
    HI1.out
    (fun x a' W => ∃ Lx, C + 1 + 1 + 1 < Lx ∧ W.heap[Lx]? = some (.cells #[.int .i64 x.1.2.op, .int .i64 x.1.2.to, .int .i64 x.1.2.a, .int .i64 x.1.2.b] 63 (0, 0)) ∧ a' = { tmps := #[.slice a ps.length ca, .slice b s.length cb, .int .i64 r, undef, undef, undef, .slice none 0 0, .int .i64 0, .int .i64 0, .pointer (some ⟨C, 0, none⟩), .pointer (some ⟨C + 1, 0, none⟩), .pointer (some ⟨C + 1 + 1, 0, none⟩), .int .i64 (x.1.1 : Int), .pointer (some ⟨Lx, 0, none⟩), .slice a ps.length ca, .slice b s.length cb, .int .i64 0, .int .i64 0, .bool false, undef, .int .i64 r, .bool true, .bool false, .slice a ps.length ca, .slice b s.length cb, .agg (iv s), .agg #[.bool false, .bool false, .bool false, .bool false, .bool false, .bool false, .bool false, .bool false, .int .i64 0, .int .i64 0, .int .i64 0, .int .i64 0, .int .i64 0, .int .i64 0, .int .i64 0, .int .i64 0], .agg (cv (runE ps s) D (befL (runS ps s))), .int .i64 r, .pointer (some ⟨C + 1, r.toNat, none⟩), .slice a ps.length ca, .func (.func 173) #[] #[.pointer (some ⟨C + 1 + 1 + 1, 0, none⟩)], .int .i64 (x.1.1 : Int), .agg #[.int .i64 x.1.2.op, .int .i64 x.1.2.to, .int .i64 x.1.2.a, .int .i64 x.1.2.b], undef, undef, undef, undef, undef, undef, undef, undef, undef, undef, undef, undef, undef, undef, undef, undef, undef, undef, undef, undef, undef, undef, undef, undef, undef, undef, undef, undef, undef], defers := [] })
    ?ax ?assign ?body ?done ?stop
  case kt => exact fun h k => ⟨h.1.trans k.1, k.2.trans h.2⟩
  case kb =>
    intro W l o o' h1 h2 h3 h4
    refine ⟨belowK_b (w := w4) HB4.size W l o o' h1 h2 h3 h4, ?_⟩
    have hl := hp_lt h2
    exact (grownBy_putObj' W l o').block (C + 1 + 1 + 1) (by omega) (by intro e; cases e; omega)
  case ax =>
    rintro x a' u X Y row ⟨Lx, h1, h2, h3⟩ hg hr
    exact ⟨Lx, h1, (own_heap Lx (fun _ : Unit => .cells #[.int .i64 x.1.2.op, .int .i64 x.1.2.to, .int .i64 x.1.2.a, .int .i64 x.1.2.b] 63 (0, 0)) (fun _ => rfl)) () X Y row h2 hg (fun k e => (hr k e).2), h3⟩
  case assign =>
    intro l pre x W K hI hK
    unfold encNL
    gi_wp2
    exact hK _ _ ((KeepsOthers.alloc _ _).from _) ⟨(Below.refl _ _).alloc hI.below.size _, (hp_alloc hI.bB).trans hI.bB.symm⟩ (hI.alloc _) ⟨W.heap.size, hp_lt hI.bB, hp_new rfl, rfl⟩
  case body =>
    rintro l pre x a' W hl _ hI ⟨Lx, hLx, hbl, rfl⟩ _
    obtain ⟨⟨xi, xl⟩, hx8, hxv⟩ := x
    simp only at hx8 hxv hbl ⊢
    generalize hst : slF D r.toNat pre = st at hI
    have hs1 : st.1.length = 4 := by rw [← hst]; exact slF_1 _ _ _
    have hs2 : st.2.length = 8 := by rw [← hst]; exact slF_2 _ _ _
    have HP : Hid (∀ (b : Bool) (m : List Bool) W', inSl D st.1 xi xl = b → m = (if b then matB xl st.1 else st.1) → KeepsOthers W W' → SlI (cv (runE ps s) D (befL (runS ps s))) D r.toNat C (C + 1) (C + 1 + 1) (C + 1 + 1 + 1) (.slice a ps.length ca) w (m, st.2.set xi b) W' →  Below w.heap.size W W' →
        KeepsFrom w4.heap.size W W' ∧ KpB w.heap.size (C + 1 + 1 + 1) W W' ∧ SlI (cv (runE ps s) D (befL (runS ps s))) D r.toNat C (C + 1) (C + 1 + 1) (C + 1 + 1 + 1) (.slice a ps.length ca) w (slF D r.toNat (pre ++ [⟨(xi, xl), hx8, hxv⟩])) W') := by
      intro b m W' hb hm hk h hB'
      refine ⟨hk.from _, ⟨hB', h.bB.trans hI.bB.symm⟩, ?_⟩
      rw [slF_snoc, hst]
      have e : stSl D st (xi, xl) = (m, st.2.set xi b) := by unfold stSl; simp only; rw [hb, hm]
      rw [e]; exact h
    have e1 := hp_cell hI.bC (cv_get1 (n := xi) H4.out (show xi < D.length by rw [HD.out]; omega))
    have hin : inSl D st.1 xi xl = (D.getD xi false && (xl.op == 7 || (Tinker.wr xl && st.1.getD xl.to.toNat false))) := rfl
    have e2 := hp_cell hI.bS (bv_get st.2 xi (by rw [hs2]; omega))
    have e3 := hp_free hI.bS xi
    have l0 := hp_cell hbl (j := 0) (by rfl)
    have l1 := hp_cell hbl (j := 1) (by rfl)
    have l2 := hp_cell hbl (j := 2) (by rfl)
    have l3 := hp_cell hbl (j := 3) (by rfl)
    have HS1 := Lib.hid hs1
    have HS2 := Lib.hid hs2
    have HW := Lib.hid (fun w => writes_any xl w hxv)
    have HM := Lib.hid (fun w => matterBefore_any xl st.1 w hxv HS1.out)
    have hto := fun h : Tinker.wr xl = true => wr_to hxv h
    have HBL := Lib.hid hbl
    have hbo := hI.below.size
    unfold lv at HW HM
    clear hst hs1 hs2 hbl
    generalize hdv : D.getD xi false = dv at e1 hin
    cases dv
    · have HIN := Lib.hid (show inSl D st.1 xi xl = false by rw [hin]; rfl)
      clear hdv hin
      gi_wp2_with fail
      any_goals (exfalso; rename_i h1 h2; exact no_undef h1)
      refine ⟨trivial, ?_⟩
      gi_wp2_with fail
      exact HP.out false st.1 _ HIN.out rfl (KeepsOthers.setCell _ _ _) (hI.putS (by omega) (by omega) xi false) ((Below.refl _ _).setCell (p := ⟨_, _, none⟩) (by show _ ≤ C + 1 + 1; omega) _)
    · by_cases h7 : xl.op = 7
      · have HIN := Lib.hid (show inSl D st.1 xi xl = true by rw [hin, h7]; rfl)
        have h7b : (xl.op == 7) = true := by simpa using h7
        clear hdv hin h7
        have HBLW := Lib.hid (hp_set (p := ⟨C + 1 + 1, xi, none⟩) HBL.out (by show Lx ≠ C + 1 + 1; omega) (.bool true))
        have HIS := Lib.hid (hI.putS (by omega) (by omega) xi true)
        have d2 := hp_cell HBLW.out (j := 0) (by rfl)
        have d3 := hp_cell HBLW.out (j := 1) (by rfl)
        have d4 := hp_cell HBLW.out (j := 2) (by rfl)
        have d5 := hp_cell HBLW.out (j := 3) (by rfl)
        gi_wp2_with fail
        refine ⟨trivial, ?_⟩
        gi_wp2_with (refine wpListIn_load_row rfl 170 (.tmp 10) rfl (C + 1) rfl 170 _ (0, 0) _ HIS.out.bM Tryz.underlying170 rfl (info_bv4 HS1.out) ?_)
        refine ⟨trivial, ?_⟩
        gi_at_call 153
        refine (CallsIn.inRound l (callsIn_wide.2 (HM.out _))).mono ?_
        rintro e W2 ⟨rfl, hB2⟩
        have HI2 := Lib.hid (HIS.out.lower hB2)
        have HL4 := Lib.hid (show (matB xl st.1).length = 4 by rw [matB_length]; exact HS1.out)
        gi_wp2_with (refine wpListIn_store_row rfl 170 (.tmp 10) (.tmp 60) rfl (C + 1) _ rfl rfl 170 _ HI2.out.bM (info_bv4 HL4.out) (by rw [bv_size, bv_size, HL4.out, HS1.out]) (bv_one _) ?_)
        exact HP.out true (matB xl st.1) _ HIN.out rfl (((KeepsOthers.setCell W ⟨C + 1 + 1, xi, none⟩ (.bool true)).trans (keeps_below hB2)).trans (keeps_row HI2.out.bM _)) (HI2.out.rowM (by omega) (by omega) (matB xl st.1)) (below_setRow (((Below.refl w.heap.size W).setCell (p := ⟨C + 1 + 1, xi, none⟩) (by show _ ≤ C + 1 + 1; omega) _).trans (hB2.mono HIS.out.below.size)) (by omega) _)
      · have h7b : (xl.op == 7) = false := by simpa using h7
        clear hdv
        rw [h7b] at hin
        have HIN0 := Lib.hid hin
        clear hin h7
        gi_wp2_with fail
        refine ⟨trivial, ?_⟩
        gi_at_call 152
        refine (CallsIn.inRound l (callsIn_wide.2 (HW.out _))).mono ?_
        rintro e W1 ⟨rfl, hB1⟩
        have hI1 := hI.lower hB1
        have HBL1 := Lib.hid (hp_below HBL.out hB1 (hp_lt HBL.out))
        have hBW : Below w.heap.size W W1 := hB1.mono hbo
        have f2 := hp_cell hI1.bS (bv_get st.2 xi (by rw [HS2.out]; omega))
        have f3 := hp_free hI1.bS xi
        clear e1 e2 e3 l0 l1 l2 l3
        cases hw : Tinker.wr xl
        · have HIN := Lib.hid (show inSl D st.1 xi xl = false by rw [HIN0.out, hw]; rfl)
          clear hw
          gi_wp2_with fail
          exact HP.out false st.1 _ HIN.out rfl ((keeps_below hB1).trans (KeepsOthers.setCell _ _ _)) (hI1.putS (by omega) (by omega) xi false) (hBW.setCell (p := ⟨C + 1 + 1, xi, none⟩) (by show _ ≤ C + 1 + 1; omega) _)
        · obtain ⟨td0, td1⟩ := hto hw
          have td2 : xl.to < 4 := by omega
          have g2 := hp_cell hI1.bM (bv_get st.1 xl.to.toNat (by rw [HS1.out]; omega))
          have g3 := hp_cell HBL1.out (j := 1) (by rfl)
          generalize hmv : st.1.getD xl.to.toNat false = mv at g2
          cases mv
          · have HIN := Lib.hid (show inSl D st.1 xi xl = false by rw [HIN0.out, hw, hmv]; rfl)
            clear hw hmv
            gi_wp2_with fail
            exact HP.out false st.1 _ HIN.out rfl ((keeps_below hB1).trans (KeepsOthers.setCell _ _ _)) (hI1.putS (by omega) (by omega) xi false) (hBW.setCell (p := ⟨C + 1 + 1, xi, none⟩) (by show _ ≤ C + 1 + 1; omega) _)
          · have HIN := Lib.hid (show inSl D st.1 xi xl = true by rw [HIN0.out, hw, hmv]; rfl)
            clear hw hmv
            have hLx1 := hp_lt HBL.out
            have HBLW := Lib.hid (hp_set (p := ⟨C + 1 + 1, xi, none⟩) HBL1.out (by show Lx ≠ C + 1 + 1; omega) (.bool true))
            have HIS := Lib.hid (hI1.putS (by omega) (by omega) xi true)
            have d2 := hp_cell HBLW.out (j := 0) (by rfl)
            have d3 := hp_cell HBLW.out (j := 1) (by rfl)
            have d4 := hp_cell HBLW.out (j := 2) (by rfl)
            have d5 := hp_cell HBLW.out (j := 3) (by rfl)
            gi_wp2_with (refine wpListIn_load_row rfl 170 (.tmp 10) rfl (C + 1) rfl 170 _ (0, 0) _ HIS.out.bM Tryz.underlying170 rfl (info_bv4 HS1.out) ?_)
            refine ⟨trivial, ?_⟩
            gi_at_call 153
            refine (CallsIn.inRound l (callsIn_wide.2 (HM.out _))).mono ?_
            rintro e W2 ⟨rfl, hB2⟩
            have HI2 := Lib.hid (HIS.out.lower hB2)
            have HL4 := Lib.hid (show (matB xl st.1).length = 4 by rw [matB_length]; exact HS1.out)
            gi_wp2_with (refine wpListIn_store_row rfl 170 (.tmp 10) (.tmp 60) rfl (C + 1) _ rfl rfl 170 _ HI2.out.bM (info_bv4 HL4.out) (by rw [bv_size, bv_size, HL4.out, HS1.out]) (bv_one _) ?_)
            exact HP.out true (matB xl st.1) _ HIN.out rfl ((((keeps_below hB1).trans (KeepsOthers.setCell W1 ⟨C + 1 + 1, xi, none⟩ (.bool true))).trans (keeps_below hB2)).trans (keeps_row HI2.out.bM _)) (HI2.out.rowM (by omega) (by omega) (matB xl st.1)) (below_setRow (((hBW).setCell (p := ⟨C + 1 + 1, xi, none⟩) (by show _ ≤ C + 1 + 1; omega) _).trans (hB2.mono HIS.out.below.size)) (by omega) _)
  case done =>
    rintro D' ys W hD' hys hI hK
    subst hys
    have hfin : slF D r.toNat ys = (backL ps).foldl (stSl D) (sl0 r.toNat) := by unfold slF; rw [HRS.out]
    have hsb : (slF D r.toNat ys).2 = sliceB ps D r.toNat := by rw [hfin]; rfl
    have hl8 : (sliceB ps D r.toNat).length = 8 := by rw [← hsb]; exact slF_2 _ _ _
    have hbS := hI.bS
    rw [hsb] at hbS
    have HPL := Lib.hid (places_any (C + 1 + 1) 0 8 (sliceB ps D r.toNat) W (fun j n hj => by rw [Nat.zero_add]; have h := hp_cell hbS (bv_get (sliceB ps D r.toNat) j (List.getElem?_eq_some_iff.1 hj).1); rwa [getD_of_get hj] at h) (hp_lt hbS) (by rw [hl8]; omega))
    rw [hl8] at HPL
    clear hfin hsb hl8 hbS
    gi_wp2_with fail
    refine ⟨trivial, ?_⟩
    gi_at_call 89
    refine (callsIn_wide.2 HPL.out).mono ?_
    intro e W5 hG
    have hG2 := hG
    obtain ⟨_, _, _, _, hb5⟩ := hG2
    have hK5 : W5.heap[D']? = some (.deferred (some [])) := hp_below hK hb5 (hp_lt hK)
    clear hb5
    obtain ⟨a', c', rfl, hown, hB7⟩ := hG.wide hI.below
    have HO := Lib.hid hown
    clear hown
    gi_wp2_with fail
    have hD5 := HB4.size
    refine ⟨by simp, .inl ⟨_, _, rfl, run_takeDeferred hK5, ?_⟩⟩
    exact ⟨_, results_tmp2 rfl _ _ _, a', c', rfl, ownsRow_putObj HO.out _ hK5 rfl, hB7.trans (belowK_b (w := w) (Nat.le_refl _) W5 D' _ _ (by omega) hK5 rfl rfl)⟩
  case stop =>
    rintro D c pre W _ _ h _
    exact h.elim

end Go.Proofs.YtdcoebeffbkpnaaGreat
