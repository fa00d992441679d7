/- Several texts in one. -/
import Derived.Test.YtfclfmloceddfaaGreatSkA
import Derived.Laws.StructEq
import Derived.Shelf.SlicesQ.Index
/- Whether two lines are equal: the run of the comparison. -/
set_option linter.unusedVariables false
set_option linter.unusedSimpArgs false
namespace Go.Proofs.YtfclfmloceddfaaGreat
open Go.RowKit Go.Shelf Tinker

def encL (l : L) : List Value := [.int .i64 l.op, .int .i64 l.to, .int .i64 l.a, .int .i64 l.b]
theorem eqLn : EqlAt Tryz.prog 42 (fun l => .agg (encL l).toArray) eqL := by
  refine ⟨fun x y w => ?_, GuardAt.agg _ (by kernel_rfl)⟩
  have u3 := Tryz.underlying3
  have a3 := Tryz.isAgg3
  have z3 := Tryz.sizeOf3
  have hS : Tryz.prog.underlying 42 = some (.struct (Tryz.prog.fieldsOf 42)) := by kernel_rfl
  have hp : Tryz.prog.stoodInHeld 42 = false := by kernel_rfl
  simp only [encL]
  rw [run_eql_struct, show (10000 : Nat) = 9999 + 1 from rfl, run_equalIn_agg w 9999 42 _ _ hS hp]
  simp only [Program.fieldsOf, Tryz.underlying42]
  go_simp
  by_cases h1 : x.op = y.op <;> by_cases h2 : x.to = y.to <;> by_cases h3 : x.a = y.a <;> by_cases h4 : x.b = y.b <;> simp [h1, h2, h3, h4, eqL]
theorem run_eqL (l m : L) (w : World) : Sem.run Tryz.prog (binOp .eql 42 (.agg #[.int .i64 l.op, .int .i64 l.to, .int .i64 l.a, .int .i64 l.b]) (.agg #[.int .i64 m.op, .int .i64 m.to, .int .i64 m.a, .int .i64 m.b])) w = .ok (.bool (eqL l m)) w := eqLn.1 l m w

end Go.Proofs.YtfclfmloceddfaaGreat

/- All lines: contracts of both sides. -/
set_option linter.unusedVariables false
set_option linter.unusedSimpArgs false
namespace Go.Proofs.YtfclfmloceddfaaGreat
open Go.RowKit Tinker

def lnTto (op : Int) (k : Nat) : List L := (rgI 0 k).flatMap fun tq => lnA op tq
def allTo (k : Nat) : List L := (rgI 0 k).flatMap lnT
theorem lnTto_succ (op : Int) (k : Nat) : lnTto op (k + 1) = lnTto op k ++ lnA op (k : Int) := by
  unfold lnTto
  rw [rgI_succ, List.flatMap_append, Int.zero_add]
  simp
theorem allTo_succ (k : Nat) : allTo (k + 1) = allTo k ++ lnTto (k : Int) 9 := by
  unfold allTo
  rw [rgI_succ, List.flatMap_append, Int.zero_add]
  simp [lnT, lnTto]
theorem lnA_len (op tq : Int) : (lnA op tq).length ≤ 76 := lnAto_len op tq 19
theorem lnTto_len (op : Int) : ∀ k, (lnTto op k).length ≤ 76 * k
  | 0 => by simp [lnTto, rgI]
  | k + 1 => by
    rw [lnTto_succ, List.length_append]
    have := lnTto_len op k
    have := lnA_len op (k : Int)
    omega
theorem allTo_len : ∀ k, (allTo k).length ≤ 684 * k
  | 0 => by simp [allTo, rgI]
  | k + 1 => by
    rw [allTo_succ, List.length_append]
    have := allTo_len k
    have := lnTto_len (k : Int) 9
    omega
theorem lines_app {w W1 : World} {v' : Value} {ls qs : List L} {n : Nat} (h : W1.ownsRow w.heap.size 42 4 v' n (lc ls ++ lc qs)) : W1.ownsRow w.heap.size 42 4 v' n (lc (ls ++ qs)) := by
  rw [lc_append]; exact h

set_option maxRecDepth 100000 in
set_option maxHeartbeats 1000000 in
theorem sAll_any (w : World) : Calls Tryz.prog 92 #[] w (GivesLines allL w) := by
  obtain ⟨i0, hi, hz0, hz1, hz2⟩ := info_parts info_line
  go_enter Tryz.func92, Tryz.ntmps92
  go_wp2_with fail
  go_loopw [1, 2] (fun s1 s2 wr => ∃ k : Nat, k ≤ 8 ∧ s2 = .int .i64 (k : Int) ∧ wr.ownsRow w.heap.size 42 4 s1 (allTo k).length (lc (allTo k)) ∧ Below w.heap.size w wr) (fun _ s2 _ => (9 - intOf s2).toNat)
  case atStart => exact ⟨0, by omega, rfl, World.ownsRow_nil _ _ _ _, Below.refl _ _⟩
  case round =>
    obtain ⟨k, hk, rfl, hO, hB⟩ := hrel
    by_cases hlt : k < 8
    · obtain ⟨va, vc, rfl⟩ := own_slice hO
      have HS := Lib.hid (allTo_succ k)
      have hlen := allTo_len k
      have g1 : (k : Int) ≤ 7 := by omega
      generalize allTo k = P at *
      have HO := Lib.hid hO
      have HB := Lib.hid hB
      clear hO hB
      go_wp2_with fail
      go_loopw [1, 8] (fun s1 s8 wx => ∃ m : Nat, m ≤ 9 ∧ s8 = .int .i64 m ∧ wx.ownsRow w.heap.size 42 4 s1 (P ++ lnTto (k : Int) m).length (lc (P ++ lnTto (k : Int) m)) ∧ Below w.heap.size w wx) (fun _ s8 _ => 9 - (intOf s8).toNat)
      case atStart => exact ⟨0, by omega, rfl, by rw [show lnTto (k : Int) 0 = [] from rfl, List.append_nil]; exact HO.out, HB.out⟩
      case round =>
        clear HO HB
        obtain ⟨m, hm, rfl, hO, hB⟩ := hrel
        by_cases hlm : m < 9
        · have hq := lnTto_len (k : Int) m
          have hqq : (P ++ lnTto (k : Int) m).length ≤ 7000 := by rw [List.length_append]; omega
          have HN := Lib.hid (show P ++ lnTto (k : Int) (m + 1) = (P ++ lnTto (k : Int) m) ++ lnA (k : Int) (m : Int) by rw [lnTto_succ, List.append_assoc])
          have hla := lnA_len (k : Int) (m : Int)
          generalize P ++ lnTto (k : Int) m = LS at hqq HN hO
          clear hq
          obtain ⟨va, vc, rfl⟩ := own_slice hO
          have HA := Lib.hid (fun w => allOf_any (k : Int) (m : Int) w)
          generalize lnA (k : Int) (m : Int) = QS at hla HN HA
          have HO := Lib.hid hO
          have HB := Lib.hid hB
          clear hO hB
          go_wp2_with fail
          refine (HA.out _).mono ?_
          rintro e w1 ⟨a1, c1, rfl, ho, hB1⟩
          have HO := Lib.hid (own_below HO.out hB1 (Nat.le_refl _))
          have HB := Lib.hid (HB.out.trans (hB1.mono HB.out.size))
          have HL := Lib.hid (lines_of_own ho).1
          have HN1 := Lib.hid (own_nil ho)
          clear ho hB1
          cases a1 with
          | none =>
            have hq := HL.out.none
            have hc := HN1.out rfl
            subst hq hc
            go_wp2_with (at_builtin; (refine wpList_append_own_none rfl (.tmp 11) (.tmp 14) 22 rfl w.heap.size 42 i0 4 Tryz.underlying22 hi (.slice va LS.length vc) LS.length (lc LS) rfl HO.out rfl ?_))
            go_wp2_with fail
            go_roundw
            case rel => exact ⟨m + 1, by omega, by go_num, by rw [HN.out, List.append_nil]; exact HO.out, HB.out⟩
            case measure => simp [intOf]; omega
          | some ad =>
            have HC := Lib.hid HL.out.cells
            go_wp2_with (at_builtin; (refine wpList_append_own _ rfl (.tmp 11) (.tmp 14) 22 rfl w.heap.size 42 i0 (.agg #[.int .i64 0, .int .i64 0, .int .i64 0, .int .i64 0]) 4 32 Tryz.underlying22 hi hz0 hz1 hz2 rfl (by decide) (.slice va LS.length vc) LS.length (lc LS) rfl HO.out ad QS.length c1 (lc QS) rfl ?c1 ?c2 ?c3 ?c4 ?c5 ?c6 ?_))
            case c1 => exact lc_length _
            case c2 => exact HC.out
            case c3 => exact lc_one _
            case c4 => simp [maxLen]; omega
            case c5 => omega
            case c6 => exact HB.out.size
            intro v' w2 hown hgrow _
            have HB3 := Lib.hid (HB.out.grown hgrow HB.out.size (by rintro k hk; exact (HO.out.lt k hk).1))
            have HO3 := Lib.hid (lines_app hown)
            clear hown hgrow
            go_wp2_with fail
            go_roundw
            case rel => exact ⟨m + 1, by omega, by go_num, by rw [HN.out, List.length_append]; exact HO3.out, HB3.out⟩
            case measure => simp [intOf]; omega
        · obtain rfl : m = 9 := by omega
          rw [← HS.out] at hO
          have HO := Lib.hid hO
          have HB := Lib.hid hB
          clear hO hB
          go_wp2_with fail
          go_roundw
          case rel => exact ⟨k + 1, by omega, by go_num, HO.out, HB.out⟩
          case measure => simp [intOf]; omega
    · obtain rfl : k = 8 := by omega
      have HO := Lib.hid hO
      have HB := Lib.hid hB
      clear hO hB
      go_wp2_with fail
      go_ret
      exact givesLines_of rfl HO.out HB.out

end Go.Proofs.YtfclfmloceddfaaGreat
