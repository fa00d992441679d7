/- slices.Backward over the lines of a program: the iterator's contract. -/
import Derived.RangeFuncNested
import Derived.RangeFuncBound
import Derived.RangeFuncCalls
import Derived.RangeFuncLeaves
import Derived.Shelf.Abstract
import Derived.Shelf.RegionOpen
import Derived.OwnWalkIn
import Derived.TacticsInMore
import Derived.LoopNIn
import Derived.LoopIn
import Derived.Test.YtmideaancmpafacSliceA
set_option linter.unusedVariables false
set_option linter.unusedSimpArgs false
namespace Go.Proofs.Ytmideaancmpafac
open Go.RowKit Go.Shelf Tinker
attribute [local go_sem] Oper.semAt_some

/-- A line of a program, with its number. -/
abbrev NL := { x : Nat × L // x.1 < 8 ∧ isLn x.2 = true }
def encNL (x : NL) : Array Value := #[.int .i64 (x.1.1 : Int), .agg #[.int .i64 x.1.2.op, .int .i64 x.1.2.to, .int .i64 x.1.2.a, .int .i64 x.1.2.b]]

/-- The lines rs, from the last one to the first one, lie at a slice's address. -/
def BackAt (W : World) (b off len : Nat) (rs : List NL) : Prop := rs.length = len ∧ ∀ j x, rs[j]? = some x → x.1.1 = len - 1 - j ∧
  W.cell? ⟨b, off + (len - 1 - j) * 4, none⟩ = some (.int .i64 x.1.2.op) ∧ W.cell? ⟨b, off + (len - 1 - j) * 4 + 1, none⟩ = some (.int .i64 x.1.2.to) ∧
  W.cell? ⟨b, off + (len - 1 - j) * 4 + 2, none⟩ = some (.int .i64 x.1.2.a) ∧ W.cell? ⟨b, off + (len - 1 - j) * 4 + 3, none⟩ = some (.int .i64 x.1.2.b)

/-- What a round keeps: what lay below n₀, and the block Bs. -/
def KpB (n₀ Bs : Nat) (W W' : World) : Prop := Below n₀ W W' ∧ W'.heap[Bs]? = W.heap[Bs]?

set_option maxRecDepth 100000 in
set_option maxHeartbeats 2000000 in
theorem back1_in (n : Nat) (hn : 1 ≤ n) (l Bs n₀ b off len cap : Nat) (a : Option Addr) (rs : List NL) (hlen : len ≤ 8) (ha : 0 < len → a = some ⟨b, off, none⟩ ∧ b < n₀) (J Jx : List NL → World → Prop)
    (hY : ∀ pre x W, J pre W → pre.length < len → YieldAt Fence.wide (n - 1) Try.prog l (encNL x) W fun e W' =>
      (e = .returned (.bool true) ∧ J (pre ++ [x]) W' ∧ KpB n₀ Bs W W') ∨ (e = .returned (.bool false) ∧ Jx (pre ++ [x]) W'))
    (W : World) (hBs : W.cell? ⟨Bs, 0, none⟩ = some (.slice a len cap)) (hc : BackAt W b off len rs) (h0 : J [] W) :
    CallsIn Fence.wide n Try.prog 76 #[.func (.yield l) #[] #[], .pointer (some ⟨Bs, 0, none⟩)] W fun e W' => (∃ v, e = .returned v) ∧
      ((∃ ys, ys = rs ∧ J ys W') ∨ (∃ pre, pre <+: rs ∧ Jx pre W')) := by
  refine callsIn_of_wp Try.func76 rfl trivial ?_ rfl
  simp only [Try.ntmps76, List.size_toArray, List.length_cons, List.length_nil, Nat.reduceAdd, Nat.reduceSub, Array.replicate_succ, Array.replicate_zero, List.push_toArray, List.append_toArray, List.nil_append, List.cons_append]
  gi_wp2
  gi_loopw [3] (fun i wr => ∃ (j : Nat) (m : Int), i = .int .i64 m ∧ j ≤ len ∧ (len : Int) - 1 - j ≤ m ∧ m ≤ (len : Int) - 1 - j ∧ J (rs.take j) wr ∧ KpB n₀ Bs W wr)
    (fun i _ => (intOf i + 1).toNat)
  case atStart => exact ⟨0, _, rfl, by omega, by omega, by omega, h0, ⟨Below.refl _ _, rfl⟩⟩
  case round =>
    obtain ⟨j, m, rfl, hj, hm1, hm2, hJs, hnx⟩ := hrel
    have hB0 := (World.cell?_of_block (w := W) (w' := wr) (a := ⟨Bs, 0, none⟩) hnx.2).trans hBs
    by_cases hlt : j < len
    · obtain ⟨rfl, hb⟩ := ha (by omega)
      obtain ⟨x, hx⟩ := get_of_lt (show j < rs.length by have := hc.1; omega)
      obtain ⟨e0, c0, c1, c2, c3⟩ := hc.2 j x hx
      have hx1 := x.2.1
      have em : m = (x.1.1 : Int) := by omega
      subst em
      have d0 := (hnx.1.cell (p := ⟨b, _, none⟩) hb).trans c0
      have d1 := (hnx.1.cell (p := ⟨b, _, none⟩) hb).trans c1
      have d2 := (hnx.1.cell (p := ⟨b, _, none⟩) hb).trans c2
      have d3 := (hnx.1.cell (p := ⟨b, _, none⟩) hb).trans c3
      rw [← e0] at d0 d1 d2 d3
      obtain ⟨fn, tmps, assign, body, hy, hR⟩ := hY _ x wr hJs (by rw [List.length_take]; have := hc.1; omega)
      unfold encNL at hy
      have HX := Lib.hid hx
      have HC := Lib.hid hc
      have hxl : x.1.1 < len := by omega
      clear hx hc e0 c0 c1 c2 c3 ha
      generalize hA : x.1.1 = xi at *
      generalize hL : x.1.2 = xl at *
      clear hA hL
      gi_wp2
      refine hR.mono ?_
      rintro e W3 (⟨rfl, hJ3, hk3⟩ | ⟨rfl, hJx3⟩)
      · rw [← take_snoc HX.out] at hJ3
        have HJ := Lib.hid hJ3
        clear hJ3
        gi_wp2
        go_roundw
        case rel => exact ⟨j + 1, _, rfl, by omega, by omega, by omega, HJ.out, hnx.1.trans hk3.1, hk3.2.trans hnx.2⟩
        case measure => simp [intOf]
      · rw [← take_snoc HX.out] at hJx3
        have HJ := Lib.hid hJx3
        clear hJx3
        gi_wp2
        refine bodyPost_ret (results_none rfl _ _ _) rfl ?_
        exact ⟨⟨_, rfl⟩, .inr ⟨_, List.take_prefix _ _, HJ.out⟩⟩
    · clear ha
      have hneg : m < 0 := by omega
      have ht : rs.take j = rs := List.take_of_length_le (by have := hc.1; omega)
      rw [ht] at hJs
      have HJ := Lib.hid hJs
      clear hJs ht
      gi_wp2
      go_end0
      exact ⟨⟨_, rfl⟩, .inl ⟨_, rfl, HJ.out⟩⟩

theorem back_stops (n : Nat) (hn : 1 ≤ n) (Bs n₀ b off len cap : Nat) (a : Option Addr) (rs : List NL) (w : World) (hlen : len ≤ 8) (ha : 0 < len → a = some ⟨b, off, none⟩ ∧ b < n₀) (hBn : Bs < w.heap.size) (hn₀ : n₀ ≤ w.heap.size)
    (hBs : w.cell? ⟨Bs, 0, none⟩ = some (.slice a len cap)) (hc : BackAt w b off len rs) :
    SeqStopsK Fence.wide n Try.prog 76 #[.pointer (some ⟨Bs, 0, none⟩)] encNL (KpB n₀ Bs) (fun ys => ys = rs) (fun pre => pre <+: rs) len w := fun l J Jx W hW _ _ hY h0 => by
  refine back1_in n hn l Bs n₀ b off len cap a rs hlen ha J Jx hY W ((hW.cell (p := ⟨Bs, 0, none⟩) (by show Bs < _; omega)).trans hBs) ⟨hc.1, fun j x hx => ?_⟩ h0
  have hl : j < len := by have := (List.getElem?_eq_some_iff.1 hx).1; have := hc.1; omega
  have hb := (ha (by omega)).2
  obtain ⟨e0, c0, c1, c2, c3⟩ := hc.2 j x hx
  exact ⟨e0, (hW.cell (p := ⟨b, _, none⟩) (by show b < _; omega)).trans c0, (hW.cell (p := ⟨b, _, none⟩) (by show b < _; omega)).trans c1, (hW.cell (p := ⟨b, _, none⟩) (by show b < _; omega)).trans c2, (hW.cell (p := ⟨b, _, none⟩) (by show b < _; omega)).trans c3⟩

set_option maxHeartbeats 1000000 in
theorem backward_any (a : Option Addr) (len cap : Nat) (w : World) :
    Calls Try.prog 46 #[.slice a len cap] w fun e w' => e = .returned (.func (.func 76) #[] #[.pointer (some ⟨w.heap.size, 0, none⟩)]) ∧ w.alloc (.cells #[.slice a len cap] 22) = w' := by
  go_enter Try.func46, Try.ntmps46
  go_wp2
  go_ret
  exact ⟨rfl, rfl⟩

end Go.Proofs.Ytmideaancmpafac
