/- Same, Put of the document's answers; Put of package code: contracts. -/
import Derived.Test.YtmideaancmpafacLns
import Derived.Test.YtmideaancmpafacRefA
import Derived.Deep.MidRow
import Derived.BigQuiet
import Derived.Deep.QuietTactic
set_option linter.unusedVariables false
set_option linter.unusedSimpArgs false
namespace Go.Proofs.Ytmideaancmpafac
open Go.RowKit Tinker

set_option maxRecDepth 100000 in
set_option maxHeartbeats 400000 in
theorem sameL_self (n : Nat) (a b : Option Addr) (ca cb : Nat) (ps : List L) (w : World) (hn : ps.length = n) (ha : LinesAt w a ps) (hb : LinesAt w b ps) (hm : n ≤ 1000) :
    Calls Try.prog 21 #[.slice a n ca, .slice b n cb] w fun e w' => e = .returned (.bool true) ∧ Below w.heap.size w w' := by
  have HN := Lib.hid hn
  have hnn : ((n : Int) != (n : Int)) = false := by simp
  go_enter Try.func21, Try.ntmps21
  go_wp2_with fail
  go_loopw [5] (fun s5 wr => ∃ k : Nat, k ≤ n ∧ s5 = .int .i64 k ∧ Below w.heap.size w wr) (fun s5 _ => n - (intOf s5).toNat)
  case atStart => exact ⟨0, Nat.zero_le _, rfl, Below.refl _ _⟩
  case round =>
    obtain ⟨k, hk, rfl, hB⟩ := hrel
    by_cases hlt : k < n
    · obtain ⟨b1, o1, l, rfl, hl1, hx, c0, c1, c2, c3⟩ := (ha.below hB (Nat.le_refl _)).at_ (show k < ps.length by rw [HN.out]; exact hlt)
      obtain ⟨b2, o2, m, rfl, hl2, hy, d0, d1, d2, d3⟩ := (hb.below hB (Nat.le_refl _)).at_ (show k < ps.length by rw [HN.out]; exact hlt)
      rw [hx] at hy
      injection hy with hy
      subst hy
      clear hx
      go_wp2_with fail
      go_quiet (fail)
      go_wp2_with fail
      go_roundw
      case rel => exact ⟨k + 1, by omega, by go_num, hB.trans (Below.mono ⟨rfl, rfl, rfl, Nat.le_refl _, fun _ _ => rfl⟩ hB.size)⟩
      case measure => simp [intOf]; omega
    · go_wp2
      go_ret
      exact ⟨rfl, hB⟩

/-- The code of Put, and its answer. -/
def putC (ps : List L) (at_ : Int) (l : L) : Int := if fe (vp ps) (vl l) = 0 then (if btw at_ 0 ((ps.length : Int) - 1) then 0 else 4) else fe (vp ps) (vl l)
def putP (ps : List L) (at_ : Int) (l : L) : List L := if putC ps at_ l = 0 then ps.set at_.toNat l else []
theorem putP_length (ps : List L) (at_ : Int) (l : L) : (putP ps at_ l).length ≤ ps.length := by unfold putP; split <;> simp

theorem vl_isLn {l : L} (h : vl l = 0) : isLn l = true := by unfold vl at h; split at h <;> simp_all
theorem info_ln : (Try.prog.info? 43).map (·.size) = some 4 := by kernel_rfl
theorem one_line (l : L) : (#[.int .i64 l.op, .int .i64 l.to, .int .i64 l.a, .int .i64 l.b] : Array Value).all (·.oneCell') = true := by simp [Value.oneCell']
theorem setCells4 (W : World) (g o : Nat) (a b c d : Value) : W.setCells g o [a, b, c, d] = (((W.setCell ⟨g, o, none⟩ a).setCell ⟨g, o + 1, none⟩ b).setCell ⟨g, o + 2, none⟩ c).setCell ⟨g, o + 3, none⟩ d := rfl

/-- The line at is put into an owned row. -/
theorem puts_line {w W : World} {g n c : Nat} {ps : List L} (h : W.ownsRow w.heap.size 43 4 (.slice (some ⟨g, 0, none⟩) n c) n (lc ps)) {i : Nat} (hi : i < ps.length) (l : L) (hB : Below w.heap.size w W) :
    (W.setCells g (i * 4) [.int .i64 l.op, .int .i64 l.to, .int .i64 l.a, .int .i64 l.b]).ownsRow w.heap.size 43 4 (.slice (some ⟨g, 0, none⟩) n c) n (lc (ps.set i l)) ∧ Below w.heap.size w (W.setCells g (i * 4) [.int .i64 l.op, .int .i64 l.to, .int .i64 l.a, .int .i64 l.b]) := by
  have hg := own_base' h
  rw [setCells4]
  exact ⟨own_setLine h hi l, (((hB.setCell (p := ⟨g, _, none⟩) hg _).setCell (p := ⟨g, _, none⟩) hg _).setCell (p := ⟨g, _, none⟩) hg _).setCell (p := ⟨g, _, none⟩) hg _⟩

end Go.Proofs.Ytmideaancmpafac
