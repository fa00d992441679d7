/- Several texts in one. -/
import Derived.RangeFuncNested
import Derived.RangeFuncBound
import Derived.RangeFuncCalls
import Derived.RangeFuncLeaves
import Derived.Shelf.Abstract
import Derived.Shelf.RegionOpen
import Derived.OwnWalkIn
import Derived.TacticsInMore
import Derived.LoopNIn
import Derived.LoopIn
import Derived.Test.YtdcoebeffbkpnaaGreatSliceC
import Derived.Test.YtdcoebeffbkpnaaGreatPtD
import Derived.Test.YtdcoebeffbkpnaaGreatEdA
import Derived.Lib.AppendZerosOnto
import Derived.Lib.AppendZeros
import Derived.Lib.SliceRun
import Derived.Test.YtdcoebeffbkpnaaGreatFxW
import Derived.RangeFuncBox
/- slices.Backward over the edits of a patch: the iterator's contract. -/
set_option linter.unusedVariables false
set_option linter.unusedSimpArgs false
namespace Go.Proofs.YtdcoebeffbkpnaaGreat
open Go.RowKit Go.Shelf Tinker
attribute [local go_sem] Oper.semAt_some

/-- An edit of a patch, with its number. -/
abbrev NE := { x : Nat × E // x.1 < 8 ∧ True }
def encNE (x : NE) : Array Value := #[.int .i64 (x.1.1 : Int), .agg #[.int .i64 x.1.2.at_, .int .i64 x.1.2.ln.op, .int .i64 x.1.2.ln.to, .int .i64 x.1.2.ln.a, .int .i64 x.1.2.ln.b]]

/-- The edits rs, from the last one to the first one, lie at a slice's address. -/
def BackAtE (W : World) (b off len : Nat) (rs : List NE) : Prop := rs.length = len ∧ ∀ j x, rs[j]? = some x → x.1.1 = len - 1 - j ∧
  W.cell? ⟨b, off + (len - 1 - j) * 5, none⟩ = some (.int .i64 x.1.2.at_) ∧ W.cell? ⟨b, off + (len - 1 - j) * 5 + 1, none⟩ = some (.int .i64 x.1.2.ln.op) ∧
  W.cell? ⟨b, off + (len - 1 - j) * 5 + 2, none⟩ = some (.int .i64 x.1.2.ln.to) ∧ W.cell? ⟨b, off + (len - 1 - j) * 5 + 3, none⟩ = some (.int .i64 x.1.2.ln.a) ∧ W.cell? ⟨b, off + (len - 1 - j) * 5 + 4, none⟩ = some (.int .i64 x.1.2.ln.b)

set_option maxRecDepth 100000 in
set_option maxHeartbeats 2000000 in
theorem back1E_in (n : Nat) (hn : 1 ≤ n) (l Bs n₀ b off len cap : Nat) (a : Option Addr) (rs : List NE) (hlen : len ≤ 8) (ha : 0 < len → a = some ⟨b, off, none⟩ ∧ b < n₀) (J Jx : List NE → World → Prop)
    (hY : ∀ pre x W, J pre W → pre.length < len → YieldAt Fence.wide (n - 1) Tryz.prog l (encNE x) W fun e W' =>
      (e = .returned (.bool true) ∧ J (pre ++ [x]) W' ∧ KpB n₀ Bs W W') ∨ (e = .returned (.bool false) ∧ Jx (pre ++ [x]) W'))
    (W : World) (hBs : W.cell? ⟨Bs, 0, none⟩ = some (.slice a len cap)) (hc : BackAtE W b off len rs) (h0 : J [] W) :
    CallsIn Fence.wide n Tryz.prog 95 #[.func (.yield l) #[] #[], .pointer (some ⟨Bs, 0, none⟩)] W fun e W' => (∃ v, e = .returned v) ∧
      ((∃ ys, ys = rs ∧ J ys W') ∨ (∃ pre, pre <+: rs ∧ Jx pre W')) := by
  refine callsIn_of_wp Tryz.func95 rfl trivial ?_ rfl
  simp only [Tryz.ntmps95, List.size_toArray, List.length_cons, List.length_nil, Nat.reduceAdd, Nat.reduceSub, Array.replicate_succ, Array.replicate_zero, List.push_toArray, List.append_toArray, List.nil_append, List.cons_append]
  gi_wp2
  gi_loopw [3] (fun i wr => ∃ (j : Nat) (m : Int), i = .int .i64 m ∧ j ≤ len ∧ (len : Int) - 1 - j ≤ m ∧ m ≤ (len : Int) - 1 - j ∧ J (rs.take j) wr ∧ KpB n₀ Bs W wr)
    (fun i _ => (intOf i + 1).toNat)
  case atStart => exact ⟨0, _, rfl, by omega, by omega, by omega, h0, ⟨Below.refl _ _, rfl⟩⟩
  case round =>
    obtain ⟨j, m, rfl, hj, hm1, hm2, hJs, hnx⟩ := hrel
    have hB0 := (World.cell?_of_block (w := W) (w' := wr) (a := ⟨Bs, 0, none⟩) hnx.2).trans hBs
    by_cases hlt : j < len
    · obtain ⟨rfl, hb⟩ := ha (by omega)
      obtain ⟨x, hx⟩ := get_of_lt (show j < rs.length by have := hc.1; omega)
      obtain ⟨e0, c0, c1, c2, c3, c4⟩ := hc.2 j x hx
      have hx1 := x.2.1
      have em : m = (x.1.1 : Int) := by omega
      subst em
      have d0 := (hnx.1.cell (p := ⟨b, _, none⟩) hb).trans c0
      have d1 := (hnx.1.cell (p := ⟨b, _, none⟩) hb).trans c1
      have d2 := (hnx.1.cell (p := ⟨b, _, none⟩) hb).trans c2
      have d3 := (hnx.1.cell (p := ⟨b, _, none⟩) hb).trans c3
      have d4 := (hnx.1.cell (p := ⟨b, _, none⟩) hb).trans c4
      rw [← e0] at d0 d1 d2 d3 d4
      obtain ⟨fn, tmps, assign, body, hy, hR⟩ := hY _ x wr hJs (by rw [List.length_take]; have := hc.1; omega)
      unfold encNE at hy
      have HX := Lib.hid hx
      have HC := Lib.hid hc
      have hxl : x.1.1 < len := by omega
      clear hx hc e0 c0 c1 c2 c3 c4 ha
      generalize hA : x.1.1 = xi at *
      generalize hL : x.1.2 = xl at *
      clear hA hL
      gi_wp2
      refine hR.mono ?_
      rintro e W3 (⟨rfl, hJ3, hk3⟩ | ⟨rfl, hJx3⟩)
      · rw [← take_snoc HX.out] at hJ3
        have HJ := Lib.hid hJ3
        clear hJ3
        gi_wp2
        go_roundw
        case rel => exact ⟨j + 1, _, rfl, by omega, by omega, by omega, HJ.out, hnx.1.trans hk3.1, hk3.2.trans hnx.2⟩
        case measure => simp [intOf]
      · rw [← take_snoc HX.out] at hJx3
        have HJ := Lib.hid hJx3
        clear hJx3
        gi_wp2
        refine bodyPost_ret (results_none rfl _ _ _) rfl ?_
        exact ⟨⟨_, rfl⟩, .inr ⟨_, List.take_prefix _ _, HJ.out⟩⟩
    · clear ha
      have hneg : m < 0 := by omega
      have ht : rs.take j = rs := List.take_of_length_le (by have := hc.1; omega)
      rw [ht] at hJs
      have HJ := Lib.hid hJs
      clear hJs ht
      gi_wp2
      go_end0
      exact ⟨⟨_, rfl⟩, .inl ⟨_, rfl, HJ.out⟩⟩

theorem backE_stops (n : Nat) (hn : 1 ≤ n) (Bs n₀ b off len cap : Nat) (a : Option Addr) (rs : List NE) (w : World) (hlen : len ≤ 8) (ha : 0 < len → a = some ⟨b, off, none⟩ ∧ b < n₀) (hBn : Bs < w.heap.size) (hn₀ : n₀ ≤ w.heap.size)
    (hBs : w.cell? ⟨Bs, 0, none⟩ = some (.slice a len cap)) (hc : BackAtE w b off len rs) :
    SeqStopsK Fence.wide n Tryz.prog 95 #[.pointer (some ⟨Bs, 0, none⟩)] encNE (KpB n₀ Bs) (fun ys => ys = rs) (fun pre => pre <+: rs) len w := fun l J Jx W hW _ _ hY h0 => by
  refine back1E_in n hn l Bs n₀ b off len cap a rs hlen ha J Jx hY W ((hW.cell (p := ⟨Bs, 0, none⟩) (by show Bs < _; omega)).trans hBs) ⟨hc.1, fun j x hx => ?_⟩ h0
  have hl : j < len := by have := (List.getElem?_eq_some_iff.1 hx).1; have := hc.1; omega
  have hb := (ha (by omega)).2
  obtain ⟨e0, c0, c1, c2, c3, c4⟩ := hc.2 j x hx
  exact ⟨e0, (hW.cell (p := ⟨b, _, none⟩) (by show b < _; omega)).trans c0, (hW.cell (p := ⟨b, _, none⟩) (by show b < _; omega)).trans c1, (hW.cell (p := ⟨b, _, none⟩) (by show b < _; omega)).trans c2, (hW.cell (p := ⟨b, _, none⟩) (by show b < _; omega)).trans c3, (hW.cell (p := ⟨b, _, none⟩) (by show b < _; omega)).trans c4⟩

set_option maxHeartbeats 1000000 in
theorem backwardE_any (a : Option Addr) (len cap : Nat) (w : World) :
    Calls Tryz.prog 45 #[.slice a len cap] w fun e w' => e = .returned (.func (.func 95) #[] #[.pointer (some ⟨w.heap.size, 0, none⟩)]) ∧ w.alloc (.cells #[.slice a len cap] 23) = w' := by
  go_enter Tryz.func45, Tryz.ntmps45
  go_wp2
  go_ret
  exact ⟨rfl, rfl⟩

end Go.Proofs.YtdcoebeffbkpnaaGreat

/- slices.Grow, slices.Concat of edits: contracts. -/
set_option linter.unusedVariables false
set_option linter.unusedSimpArgs false
namespace Go.Proofs.YtdcoebeffbkpnaaGreat
open Go.RowKit Tinker

/-- A slice of no elements, with room. -/
def GivesRoomE (w : World) (e : Ending) (w' : World) : Prop := ∃ v, e = .returned v ∧ w'.ownsRow w.heap.size 65 5 v 0 [] ∧ Below w.heap.size w w'

theorem zcellsE (c : Array Value) (hc : c.size = 5) (k : Nat) : (Builtin.zeroCells c k).size = k * 5 := by
  simp [Builtin.zeroCells, hc]

set_option maxRecDepth 100000 in
set_option maxHeartbeats 1000000 in
theorem growE_any (n : Nat) (w : World) (hn : n ≤ 16) :
    Calls Tryz.prog 96 #[.slice none 0 0, .int .i64 n] w (GivesRoomE w) := by
  obtain ⟨i0, hi, hz0, hz1, hz2⟩ := info_parts info_edit
  rcases Nat.eq_zero_or_pos n with h0 | h0
  · subst h0
    go_enter Tryz.func96, Tryz.ntmps96
    go_wp2_with fail
    go_ret
    exact ⟨_, rfl, World.ownsRow_nil _ _ _ _, Below.refl _ _⟩
  · have hrz : ∀ ty, (Builtin.append_ #[23, 3] ty #[.slice none 0 0, .int .i64 n]).run Tryz.prog w =
        .ok (.slice (some ⟨w.heap.size, 0, none⟩) n (grownCap w n 0 65)) (w.drew.alloc (.cells (Builtin.zeroCells (Value.agg #[.int .i64 0, .int .i64 0, .int .i64 0, .int .i64 0, .int .i64 0]).cells n ++ Builtin.zeroCells (Value.agg #[.int .i64 0, .int .i64 0, .int .i64 0, .int .i64 0, .int .i64 0]).cells (grownCap w n 0 65 - n)) 65)) := fun ty => by
      have h := Lib.run_append_grow_zeros (P := Tryz.prog) w 23 3 ty 65 i0 _ .i64 .i64 Tryz.underlying23 Tryz.underlying3 hi hz0 none 0 0 [] (run_firstCells_none w.drew i0.size 0 0 0) n h0 (by omega) (by omega) (by omega) (by rw [hz2]; omega) (growslice_fits (by omega) (by rw [hz2]; omega))
      simp only [Nat.zero_add, Array.empty_append] at h
      exact h
    have hge := grownCap_ge w n 0 65
    have hle := grownCap_le_maxLen w n 0 65 (by unfold maxLen; omega)
    obtain ⟨G, hG⟩ : ∃ G, G = grownCap w n 0 65 := ⟨_, rfl⟩
    rw [← hG] at hrz hge hle
    have HG := Lib.hid hG
    have hG63 : G ≤ 9223372036854775807 := by unfold maxLen at hle; omega
    have hsz : (Builtin.zeroCells (Value.agg #[.int .i64 0, .int .i64 0, .int .i64 0, .int .i64 0, .int .i64 0]).cells n ++ Builtin.zeroCells (Value.agg #[.int .i64 0, .int .i64 0, .int .i64 0, .int .i64 0, .int .i64 0]).cells (G - n)).size = G * 5 := by
      rw [Array.size_append, zcellsE _ rfl, zcellsE _ rfl, ← Nat.add_mul]; congr 1; omega
    generalize Builtin.zeroCells (Value.agg #[.int .i64 0, .int .i64 0, .int .i64 0, .int .i64 0, .int .i64 0]).cells n ++ Builtin.zeroCells (Value.agg #[.int .i64 0, .int .i64 0, .int .i64 0, .int .i64 0, .int .i64 0]).cells (G - n) = cs at hrz hsz
    have HS := Lib.hid hsz
    have HH := Lib.hid hle
    have HR := Lib.hid hrz
    have hn0 : (0 : Int) < (n : Int) := by omega
    clear hG hsz hle hrz hi hz0 hz1 hz2
    go_enter Tryz.func96, Tryz.ntmps96
    go_wp2_with (at_builtin; refine Lib.wpList_append_run _ rfl _ _ _ _ rfl _ _ rfl rfl _ _ (HR.out _) ?_)
    go_ret
    refine ⟨_, rfl, ?_, ?_⟩
    · exact ⟨by simp, .inr ⟨w.heap.size, G, cs, rfl, Nat.le_refl _, hp_new rfl, Nat.zero_le _, HH.out, HS.out, by simp⟩⟩
    · exact (Below.refl _ _).drew.alloc (Nat.le_refl _) _

def catE (ps qs : List E) (k : Nat) : List E := if k = 0 then [] else if k = 1 then ps else ps ++ qs
theorem ec_cat0 (ps qs : List E) : ec (catE ps qs 0) = [] := rfl
/-- A list of two slices in memory. -/
theorem two_slicesE {W : World} {S : Nat} {a b : Option Addr} {n ca m cb : Nat} {t : TypeId} (h : W.heap[S]? = some (.cells #[.slice a n ca, .slice b m cb] t (0, 0))) : W.cell? ⟨S, 0, none⟩ = some (.slice a n ca) ∧ W.cell? ⟨S, 1, none⟩ = some (.slice b m cb) := ⟨hp_cell h (by rfl), hp_cell h (by rfl)⟩

set_option maxRecDepth 100000 in
set_option maxHeartbeats 2000000 in
theorem concatE_any (S : Nat) (a b : Option Addr) (ca cb : Nat) (ps qs : List E) (t : TypeId) (w : World) (hS : w.heap[S]? = some (.cells #[.slice a ps.length ca, .slice b qs.length cb] t (0, 0))) (hp : EditsAt w a ps) (hc : a = none → ca = 0) (hq : EditsAt w b qs) (hd : b = none → cb = 0) (h8 : ps.length + qs.length ≤ 8) :
    Calls Tryz.prog 46 #[.slice (some ⟨S, 0, none⟩) 2 2] w (GivesEdits (ps ++ qs) w) := by
  obtain ⟨i0, hi, hz0, hz1, hz2⟩ := info_parts info_edit
  obtain ⟨c0, c1⟩ := two_slicesE hS
  have HS := Lib.hid hS
  clear hS
  go_enter Tryz.func46, Tryz.ntmps46
  go_wp2_with fail
  go_loop [3, 11] (fun s3 s11 => ∃ k : Nat, k ≤ 2 ∧ s11 = .int .i64 k ∧ s3 = .int .i64 (catE ps qs k).length) (fun _ s11 => 2 - (intOf s11).toNat)
  case atStart => exact ⟨0, by omega, rfl, rfl⟩
  case round =>
    obtain ⟨k, hk, rfl, rfl⟩ := hrel
    have hk3 : k = 0 ∨ k = 1 ∨ k = 2 := by omega
    rcases hk3 with rfl | rfl | rfl
    · rw [show ((catE ps qs 0).length : Int) = 0 from rfl, show ((0 : Nat) : Int) = 0 from rfl]
      go_wp2_with fail
      go_round
      case rel => exact ⟨1, by omega, rfl, rfl⟩
      case measure => simp [intOf]
    · rw [show ((catE ps qs 1).length : Int) = (ps.length : Int) from rfl, show ((1 : Nat) : Int) = 1 from rfl]
      go_wp2_with fail
      go_round
      case rel => exact ⟨2, by omega, rfl, by unfold catE; simp⟩
      case measure => simp [intOf]
    · rw [show ((catE ps qs 2).length : Int) = ((ps.length + qs.length : Nat) : Int) by unfold catE; simp, show ((2 : Nat) : Int) = 2 from rfl]
      have hcl := Lib.hid (rfl : (2 : Nat) = 2)
      go_wp2_with fail
      refine (growE_any (ps.length + qs.length) _ (by omega)).mono ?_
      intro e w1 hG
      obtain ⟨v, rfl, hown, hB⟩ := hG
      have hS1 := hp_below HS.out hB (hp_lt HS.out)
      obtain ⟨d0, d1⟩ := two_slicesE hS1
      clear c0 c1 hS1
      go_wp2_with fail
      go_loopw [6, 27] (fun s6 s27 wr => ∃ k : Nat, k ≤ 2 ∧ s27 = .int .i64 k ∧ wr.ownsRow w.heap.size 65 5 s6 (catE ps qs k).length (ec (catE ps qs k)) ∧ Below w.heap.size w wr) (fun _ s27 _ => 2 - (intOf s27).toNat)
      case atStart => exact ⟨0, by omega, rfl, hown, hB⟩
      case round =>
        have hsz := hB.size
        clear hown hB d0 d1
        obtain ⟨k, hk, rfl, hown, hB⟩ := hrel
        have hS1 := hp_below HS.out hB (hp_lt HS.out)
        obtain ⟨d0, d1⟩ := two_slicesE hS1
        by_cases hk0 : k = 0
        · have dk : wr.cell? ⟨S, k, none⟩ = some (.slice a ps.length ca) := by rw [hk0]; exact d0
          rw [show catE ps qs k = [] by rw [hk0]; rfl] at hown
          have HN := Lib.hid (show catE ps qs (k + 1) = [] ++ ps by rw [hk0]; unfold catE; simp)
          have hk2 : (k : Int) < 2 := by omega
          clear d0 d1 hk0
          cases a with
          | none =>
            have HPS := Lib.hid hp.none
            rw [show ps.length = 0 by rw [HPS.out]; rfl, hc rfl] at dk
            have HO := Lib.hid hown
            go_wp2_with (at_builtin; (refine wpList_append_own_none rfl (.tmp 31) (.tmp 32) 23 rfl w.heap.size 65 i0 5 Tryz.underlying23 hi _ _ _ rfl hown rfl ?_))
            clear hown
            go_wp2_with fail
            go_roundw
            case rel => exact ⟨k + 1, by omega, by go_num, by rw [HN.out, HPS.out, List.append_nil]; exact HO.out, hB⟩
            case measure => simp [intOf]; omega
          | some ad =>
            have HC := Lib.hid ((hp.below hB (Nat.le_refl _)).cells)
            go_wp2_with (at_builtin; (refine wpList_append_own _ rfl (.tmp 31) (.tmp 32) 23 rfl w.heap.size 65 i0 (.agg #[.int .i64 0, .int .i64 0, .int .i64 0, .int .i64 0, .int .i64 0]) 5 40 Tryz.underlying23 hi hz0 hz1 hz2 rfl (by decide) _ _ _ rfl hown ad ps.length ca (ec ps) rfl ?c1 ?c2 ?c3 ?c4 ?c5 ?c6 ?_))
            case c1 => exact ec_length ps
            case c2 => intro j u hu; exact HC.out j u hu
            case c3 => exact ec_one ps
            case c4 => simp [maxLen]; omega
            case c5 => simp; omega
            case c6 => exact hB.size
            intro v' w2 hown1 hgrow _
            have hB1 : Below w.heap.size w w2 := hB.grown hgrow hB.size (own_base hown)
            have HO := Lib.hid hown1
            clear hown1 hgrow hown
            go_wp2_with fail
            go_roundw
            case rel => exact ⟨k + 1, by omega, by go_num, by rw [HN.out, ec_append, List.length_append]; first | exact HO.out | (have q := HO.out; rw [← Nat.zero_add ps.length] at q; exact q), hB1⟩
            case measure => simp [intOf]; omega
        · by_cases hk1 : k = 1
          · have hk0 := hk1
            clear hk1
            have dk : wr.cell? ⟨S, k, none⟩ = some (.slice b qs.length cb) := by rw [hk0]; exact d1
            rw [show catE ps qs k = ps by rw [hk0]; rfl] at hown
            have HN := Lib.hid (show catE ps qs (k + 1) = ps ++ qs by rw [hk0]; unfold catE; simp)
            have hk2 : (k : Int) < 2 := by omega
            clear d0 d1 hk0
            cases b with
            | none =>
              have HPS := Lib.hid hq.none
              rw [show qs.length = 0 by rw [HPS.out]; rfl, hd rfl] at dk
              have HO := Lib.hid hown
              go_wp2_with (at_builtin; (refine wpList_append_own_none rfl (.tmp 31) (.tmp 32) 23 rfl w.heap.size 65 i0 5 Tryz.underlying23 hi _ _ _ rfl hown rfl ?_))
              clear hown
              go_wp2_with fail
              go_roundw
              case rel => exact ⟨k + 1, by omega, by go_num, by rw [HN.out, HPS.out, List.append_nil]; exact HO.out, hB⟩
              case measure => simp [intOf]; omega
            | some ad =>
              have HC := Lib.hid ((hq.below hB (Nat.le_refl _)).cells)
              go_wp2_with (at_builtin; (refine wpList_append_own _ rfl (.tmp 31) (.tmp 32) 23 rfl w.heap.size 65 i0 (.agg #[.int .i64 0, .int .i64 0, .int .i64 0, .int .i64 0, .int .i64 0]) 5 40 Tryz.underlying23 hi hz0 hz1 hz2 rfl (by decide) _ _ _ rfl hown ad qs.length cb (ec qs) rfl ?d1 ?d2 ?d3 ?d4 ?d5 ?d6 ?_))
              case d1 => exact ec_length qs
              case d2 => intro j u hu; exact HC.out j u hu
              case d3 => exact ec_one qs
              case d4 => simp [maxLen]; omega
              case d5 => omega
              case d6 => exact hB.size
              intro v' w2 hown1 hgrow _
              have hB1 : Below w.heap.size w w2 := hB.grown hgrow hB.size (own_base hown)
              have HO := Lib.hid hown1
              clear hown1 hgrow hown
              go_wp2_with fail
              go_roundw
              case rel => exact ⟨k + 1, by omega, by go_num, by rw [HN.out, ec_append, List.length_append]; first | exact HO.out | (have q := HO.out; rw [← Nat.zero_add ps.length] at q; exact q), hB1⟩
              case measure => simp [intOf]; omega
          · have hk2 : k = 2 := by omega
            have hk2' : ¬ (k : Int) < 2 := by omega
            rw [show catE ps qs k = ps ++ qs by rw [hk2]; rfl] at hown
            have HO := Lib.hid hown
            clear hown hk2
            go_wp2_with fail
            go_ret
            exact givesEdits_of rfl HO.out hB

end Go.Proofs.YtdcoebeffbkpnaaGreat

/- Reduce of patch: the state of its loop. -/
set_option linter.unusedVariables false
set_option linter.unusedSimpArgs false
namespace Go.Proofs.YtdcoebeffbkpnaaGreat
open Go.RowKit Go.Shelf Tinker

theorem own_keep {W W' : World} {base n k c : Nat} {e : TypeId} {ad : Option Addr} {cs : List Value} (hk : ∀ (g : Nat) (cur : Array Value), base ≤ g → ad = some ⟨g, 0, none⟩ → W.heap[g]? = some (.cells cur e (0, 0)) → W'.heap[g]? = some (.cells cur e (0, 0))) (h : W.ownsRow base e k (.slice ad n c) n cs) : W'.ownsRow base e k (.slice ad n c) n cs := by
  refine ⟨h.1, ?_⟩
  rcases h.2 with h2 | ⟨g, cap, cur, he, hb, hg, h3⟩
  · exact .inl h2
  · have ha : ad = some ⟨g, 0, none⟩ := by injection he
    exact .inr ⟨g, cap, cur, he, hb, hk g cur hb ha hg, h3⟩

/-- The loop's state: the program, the tests, what is kept, the box of the patch. -/
structure RdI (a : Option Addr) (ca n : Nat) (h : Option Addr) (ch m : Nat) (P K T B : Nat) (bx : Value) (w : World) (zs : List E) (W : World) : Prop where
  bP : W.heap[P]? = some (.cells #[.slice a n ca] 22 (0, 0))
  bT : W.heap[T]? = some (.cells #[.slice h m ch] 24 (0, 0))
  bB : W.heap[B]? = some (.cells #[bx] 23 (0, 0))
  bK : ∃ ad c, W.heap[K]? = some (.cells #[.slice ad zs.length c] 23 (0, 0)) ∧ W.ownsRow w.heap.size 65 5 (.slice ad zs.length c) zs.length (ec zs) ∧ ∀ b o p, ad = some ⟨b, o, p⟩ → b ≠ K
  below : Below w.heap.size w W
theorem RdI.lower {a : Option Addr} {ca n : Nat} {h : Option Addr} {ch m P K T B : Nat} {bx : Value} {w : World} {zs : List E} {W W' : World} (hs : RdI a ca n h ch m P K T B bx w zs W) (hb : Below W.heap.size W W') : RdI a ca n h ch m P K T B bx w zs W' := by
  obtain ⟨ad, c, k1, k2, k3⟩ := hs.bK
  exact ⟨hp_below hs.bP hb (hp_lt hs.bP), hp_below hs.bT hb (hp_lt hs.bT), hp_below hs.bB hb (hp_lt hs.bB), ⟨ad, c, hp_below k1 hb (hp_lt k1), own_below k2 hb (Nat.le_refl _), k3⟩, hs.below.trans (hb.mono hs.below.size)⟩
theorem RdI.alloc {a : Option Addr} {ca n : Nat} {h : Option Addr} {ch m P K T B : Nat} {bx : Value} {w : World} {zs : List E} {W : World} (hs : RdI a ca n h ch m P K T B bx w zs W) (o : Obj) : RdI a ca n h ch m P K T B bx w zs (W.alloc o) :=
  hs.lower ((Below.refl _ _).alloc (Nat.le_refl _) o)
theorem rdI_own (a : Option Addr) (ca n : Nat) (h : Option Addr) (ch m P K T Bs : Nat) (bx : Value) (w : World) {β : Type} (f : β → List E) (B : Nat) (hB : w.heap.size ≤ B) : OwnFrom B (fun (pre : β) W => RdI a ca n h ch m P K T Bs bx w (f pre) W) := fun pre X Y row hs hg hr => by
  obtain ⟨ad, c, k1, k2, k3⟩ := hs.bK
  refine ⟨(own_heap P (fun _ : Unit => .cells #[.slice a n ca] 22 (0, 0)) (fun _ => rfl)) () X Y row hs.bP hg (fun k e => (hr k e).2), (own_heap T (fun _ : Unit => .cells #[.slice h m ch] 24 (0, 0)) (fun _ => rfl)) () X Y row hs.bT hg (fun k e => (hr k e).2),
   (own_heap Bs (fun _ : Unit => .cells #[bx] 23 (0, 0)) (fun _ => rfl)) () X Y row hs.bB hg (fun k e => (hr k e).2), ⟨ad, c, (own_heap K (fun _ : Unit => .cells #[.slice ad (f pre).length c] 23 (0, 0)) (fun _ => rfl)) () X Y row k1 hg (fun k e => (hr k e).2), ?_, k3⟩,
   hs.below.grown hg hs.below.size (fun k e => Nat.le_trans hB (hr k e).1)⟩
  exact own_keep (fun g cur _ _ hgg => (own_heap g (fun _ : Unit => .cells cur 65 (0, 0)) (fun _ => rfl)) () X Y row hgg hg (fun k e => (hr k e).2)) k2
/-- What Concat gave is stored as what is kept. -/
theorem RdI.put {a : Option Addr} {ca n : Nat} {h : Option Addr} {ch m P K T B : Nat} {bx : Value} {w : World} {zs : List E} {W : World} (hs : RdI a ca n h ch m P K T B bx w zs W) (hK : w.heap.size ≤ K) (hn : K ≠ P ∧ K ≠ T ∧ K ≠ B) (us : List E) (ad : Option Addr) (c : Nat) (ho : W.ownsRow w.heap.size 65 5 (.slice ad us.length c) us.length (ec us)) (ha : ∀ b o p, ad = some ⟨b, o, p⟩ → b ≠ K) : RdI a ca n h ch m P K T B bx w us (W.setCell ⟨K, 0, none⟩ (.slice ad us.length c)) := by
  obtain ⟨ad0, c0, k1, k2, k3⟩ := hs.bK
  refine ⟨hp_set hs.bP (fun e => hn.1 e.symm) _, hp_set hs.bT (fun e => hn.2.1 e.symm) _, hp_set hs.bB (fun e => hn.2.2 e.symm) _, ⟨ad, c, ?_, own_keep (fun g cur _ hg hgg => hp_set hgg (ha g 0 none hg) _) ho, ha⟩, hs.below.setCell (p := ⟨K, 0, none⟩) hK _⟩
  have hq := hp_put k1 0 (.slice ad us.length c)
  exact hq

end Go.Proofs.YtdcoebeffbkpnaaGreat
