/- Several texts in one. -/
import Derived.Test.YtmigkbimdjiigaaRefC
import Derived.Test.YtmigkbimdjiigaaKnownT
import Derived.IntWalk
import Derived.Test.YtmigkbimdjiigaaPlain
/- IsSet of both, validateForced: contracts. -/
set_option linter.unusedVariables false
set_option linter.unusedSimpArgs false
namespace Go.Proofs.Ytmigkbimdjiigaa
open Go.RowKit Tinker

/-- The first numbers are strictly ascending. -/
def AscTo (l : List Int) (k : Nat) : Prop := ∀ i, i < k → i + 1 < l.length → l.getD i 0 < l.getD (i + 1) 0
theorem ascTo_zero (l : List Int) : AscTo l 0 := fun i hi => by omega
theorem ascTo_succ {l : List Int} {k : Nat} {x y : Int} (h : AscTo l k) (hx : l[k]? = some x) (hy : l[k + 1]? = some y) (hxy : x < y) : AscTo l (k + 1) := fun i hi h1 => by
  rcases Nat.lt_or_ge i k with h2 | h2
  · exact h i h2 h1
  · have : i = k := by omega
    subst this
    rw [getD_of_get hx, getD_of_get hy]; exact hxy
theorem isSetB_yes {l : List Int} {k : Nat} (h : AscTo l k) (hk : l.length ≤ k + 1) : isSetB l = true := (isSetB_iff l).2 fun i hi => h i (by omega) hi
theorem isSetB_no {l : List Int} {k : Nat} {x y : Int} (hx : l[k]? = some x) (hy : l[k + 1]? = some y) (hxy : y ≤ x) : isSetB l = false := by
  rw [Bool.eq_false_iff]; intro h
  have := (isSetB_iff l).1 h k (List.getElem?_eq_some_iff.1 hy).1
  rw [getD_of_get hx, getD_of_get hy] at this
  omega

set_option maxHeartbeats 400000 in
theorem kIsSet_any (a : Option Addr) (cap : Nat) (zs : List Int) (w : World) (hz : IntsAt w a zs) (hm : zs.length ≤ 1000) :
    Calls Try.prog 109 #[.slice a zs.length cap] w fun e w' => e = .returned (.bool (isSetB zs)) ∧ Below w.heap.size w w' := by
  go_enter Try.func109, Try.ntmps109
  go_wp2_with fail
  go_loopw [3] (fun i wr => ∃ k : Nat, k ≤ zs.length ∧ i = .int .i64 ((k : Int) + 1) ∧ AscTo zs k ∧ Below w.heap.size w wr) (fun i _ => (zs.length + 1 - intOf i).toNat)
  case atStart => exact ⟨0, Nat.zero_le _, rfl, ascTo_zero _, Below.refl _ _⟩
  case round =>
    obtain ⟨k, hk, rfl, hall, hB⟩ := hrel
    have HA := Lib.hid hall
    clear hall
    by_cases hlt : k + 1 < zs.length
    · obtain ⟨b, off, x, rfl, hlb, hx, h0⟩ := (hz.below hB (Nat.le_refl _)).at_ (show k < zs.length by omega)
      obtain ⟨b', off', y, e', _, hy, h1⟩ := (hz.below hB (Nat.le_refl _)).at_ hlt
      injection e' with e'
      injection e' with e1 e2
      subst e1 e2
      have HX := Lib.hid hx
      have HY := Lib.hid hy
      clear hx hy hz
      have g0 : (0 : Int) ≤ (k : Int) := by omega
      have g1 : (k : Int) + 1 < (zs.length : Int) := by omega
      have g2 : ((k : Int) + 1).toNat = k + 1 := by omega
      have g3 : IntKind.i64.wrap ((k : Int) + 1 - 1) = (k : Int) := by rw [IntWalk.i64_in _ (by omega)]; omega
      by_cases hxy : x < y
      · have hxy2 : decide (y ≤ x) = false := by simp; omega
        have HN := Lib.hid hxy
        clear hxy
        go_wp2_with fail
        go_quiet (fail)
        clear g2 g3
        go_wp2_with fail
        go_roundw
        case rel => exact ⟨k + 1, by omega, by go_num, ascTo_succ HA.out HX.out HY.out HN.out, hB.trans (Below.mono ⟨rfl, rfl, rfl, Nat.le_refl _, fun _ _ => rfl⟩ hB.size)⟩
        case measure => simp [intOf]; omega
      · have hxy2 : decide (y ≤ x) = true := by simp; omega
        have HN := Lib.hid hxy
        clear hxy
        go_wp2_with fail
        go_quiet (fail)
        clear g2 g3
        go_wp2_with fail
        go_ret
        exact ⟨ret_bool (isSetB_no HX.out HY.out HN.out).symm, hB.trans (Below.mono ⟨rfl, rfl, rfl, Nat.le_refl _, fun _ _ => rfl⟩ hB.size)⟩
    · go_wp2_with fail
      go_ret
      exact ⟨ret_bool (isSetB_yes HA.out (by omega)).symm, hB⟩

/-- The errors of what is forced. -/
def allWr (p : List L) (ls : List Int) : Bool := ls.all fun n => Tinker.wr (p.getD n.toNat ⟨0, 0, 0, 0⟩)
def fcC (p : List L) (ls vs : List Int) : Int :=
  if isSetB ls = false then 1 else if allBtw ls 0 ((p.length : Int) - 1) = false then 4 else if ls.length ≠ vs.length then 9 else if allBtw vs (-999) 999 = false then 1 else if allWr p ls = false then 6 else 0
theorem fcC_1 {p : List L} {ls vs : List Int} (h1 : isSetB ls = false) : fcC p ls vs = 1 := by unfold fcC; rw [if_pos h1]
theorem fcC_4 {p : List L} {ls vs : List Int} (h1 : isSetB ls = true) (h2 : allBtw ls 0 ((p.length : Int) - 1) = false) : fcC p ls vs = 4 := by unfold fcC; rw [if_neg (by simp [h1]), if_pos h2]
theorem fcC_9 {p : List L} {ls vs : List Int} (h1 : isSetB ls = true) (h2 : allBtw ls 0 ((p.length : Int) - 1) = true) (h3 : ls.length ≠ vs.length) : fcC p ls vs = 9 := by unfold fcC; rw [if_neg (by simp [h1]), if_neg (by simp [h2]), if_pos h3]
theorem fcC_1' {p : List L} {ls vs : List Int} (h1 : isSetB ls = true) (h2 : allBtw ls 0 ((p.length : Int) - 1) = true) (h3 : ls.length = vs.length) (h4 : allBtw vs (-999) 999 = false) : fcC p ls vs = 1 := by unfold fcC; rw [if_neg (by simp [h1]), if_neg (by simp [h2]), if_neg (by omega), if_pos h4]
theorem fcC_6 {p : List L} {ls vs : List Int} (h1 : isSetB ls = true) (h2 : allBtw ls 0 ((p.length : Int) - 1) = true) (h3 : ls.length = vs.length) (h4 : allBtw vs (-999) 999 = true) (h5 : allWr p ls = false) : fcC p ls vs = 6 := by unfold fcC; rw [if_neg (by simp [h1]), if_neg (by simp [h2]), if_neg (by omega), if_neg (by simp [h4]), if_pos h5]
theorem fcC_0 {p : List L} {ls vs : List Int} (h1 : isSetB ls = true) (h2 : allBtw ls 0 ((p.length : Int) - 1) = true) (h3 : ls.length = vs.length) (h4 : allBtw vs (-999) 999 = true) (h5 : allWr p ls = true) : fcC p ls vs = 0 := by unfold fcC; rw [if_neg (by simp [h1]), if_neg (by simp [h2]), if_neg (by omega), if_neg (by simp [h4]), if_neg (by simp [h5])]
theorem fcC_ok {p : List L} {ls vs : List Int} (h : fcC p ls vs = 0) : isSetB ls = true ∧ allBtw ls 0 ((p.length : Int) - 1) = true ∧ ls.length = vs.length ∧ allBtw vs (-999) 999 = true ∧ allWr p ls = true := by
  unfold fcC at h
  split at h
  · cases h
  · split at h
    · cases h
    · split at h
      · cases h
      · split at h
        · cases h
        · split at h
          · cases h
          · rename_i h1 h2 h3 h4 h5
            exact ⟨by simpa using h1, by simpa using h2, by omega, by simpa using h4, by simpa using h5⟩
theorem allBtw_at {l : List Int} {lo hi : Int} (h : allBtw l lo hi = true) {n : Int} (hn : n ∈ l) : lo ≤ n ∧ n ≤ hi := btw_true.1 (List.all_eq_true.1 h n hn)

end Go.Proofs.Ytmigkbimdjiigaa

/- Force of the document's answers: contract. -/
set_option linter.unusedVariables false
set_option linter.unusedSimpArgs false
namespace Go.Proofs.Ytmigkbimdjiigaa
open Go.RowKit Tinker

/-- The code and the state at the end of Force. -/
def fC (p : List L) (s ls vs : List Int) : Int := if vr p s = 0 then fcC p ls vs else vr p s
def fA (p : List L) (s ls vs : List Int) : List Int := if fC p s ls vs = 0 then (tr p (fL ls vs) 0 s).2 else []
theorem fC_vr {p : List L} {s ls vs : List Int} (h : vr p s = 0) : fC p s ls vs = fcC p ls vs := by unfold fC; rw [if_pos h]
theorem fA_no {p : List L} {s ls vs : List Int} (h : fC p s ls vs ≠ 0) : fA p s ls vs = [] := by unfold fA; rw [if_neg h]
theorem fA_yes {p : List L} {s ls vs : List Int} (h : fC p s ls vs = 0) : fA p s ls vs = (tr p (fL ls vs) 0 s).2 := by unfold fA; rw [if_pos h]
theorem fL_okF {p : List L} {ls vs : List Int} (h : fcC p ls vs = 0) : okF p (fL ls vs) := fun i n hn => by
  obtain ⟨_, _, h3, h4, h5⟩ := fcC_ok h
  obtain ⟨j, hj, e1, e2⟩ := fLk_some hn
  obtain ⟨x, hx⟩ := get_of_lt (show j < ls.length by omega)
  obtain ⟨y, hy⟩ := get_of_lt (show j < vs.length by omega)
  rw [getD_of_get hx] at e1
  rw [getD_of_get hy] at e2
  subst e1 e2
  refine ⟨allBtw_at h4 (mem_of_get hy), fun l hl => ?_⟩
  have := List.all_eq_true.1 h5 _ (mem_of_get hx)
  rw [Int.toNat_natCast, getD_of_get hl] at this
  exact this
theorem fA_ok {p : List L} {s ls vs : List Int} (h : fC p s ls vs = 0) : okS (fA p s ls vs) := by
  rw [fA_yes h]
  have hz : vr p s = 0 := by unfold fC at h; split at h <;> assumption
  rw [fC_vr hz] at h
  exact (tr_ok (fL_okF h) _ 0 s (Nat.le_refl _) (vs_ok (vr_ok hz).2)).1
theorem givesRF {p : List L} {s ls vs : List Int} {w w' : World} {c : Int} (h : fC p s ls vs = c) (hc : c ≠ 0) (hB : Below w.heap.size w w') : GivesR (fA p s ls vs) (fC p s ls vs) w (.returned (.tuple #[.slice none 0 0, .int .i64 c])) w' := by
  subst h
  rw [fA_no hc]
  exact givesR_nil hB

end Go.Proofs.Ytmigkbimdjiigaa

/- Slice of the document's answers: contract. -/
set_option linter.unusedVariables false
set_option linter.unusedSimpArgs false
namespace Go.Proofs.Ytmigkbimdjiigaa
open Go.RowKit Tinker

theorem mkB0 (w : World) : (Instr.makeSlice 66 (.int .i64 ((0 : Nat) : Int)) (.int .i64 ((0 : Nat) : Int))).run Try.prog w = .ok (.slice (some ⟨w.heap.size, 0, none⟩) 0 0) (w.alloc (.cells (bv (List.replicate 0 false)) 4)) := by kernel_rfl
theorem mkB1 (w : World) : (Instr.makeSlice 66 (.int .i64 ((1 : Nat) : Int)) (.int .i64 ((1 : Nat) : Int))).run Try.prog w = .ok (.slice (some ⟨w.heap.size, 0, none⟩) 1 1) (w.alloc (.cells (bv (List.replicate 1 false)) 4)) := by kernel_rfl
theorem mkB2 (w : World) : (Instr.makeSlice 66 (.int .i64 ((2 : Nat) : Int)) (.int .i64 ((2 : Nat) : Int))).run Try.prog w = .ok (.slice (some ⟨w.heap.size, 0, none⟩) 2 2) (w.alloc (.cells (bv (List.replicate 2 false)) 4)) := by kernel_rfl
theorem mkB3 (w : World) : (Instr.makeSlice 66 (.int .i64 ((3 : Nat) : Int)) (.int .i64 ((3 : Nat) : Int))).run Try.prog w = .ok (.slice (some ⟨w.heap.size, 0, none⟩) 3 3) (w.alloc (.cells (bv (List.replicate 3 false)) 4)) := by kernel_rfl
theorem mkB4 (w : World) : (Instr.makeSlice 66 (.int .i64 ((4 : Nat) : Int)) (.int .i64 ((4 : Nat) : Int))).run Try.prog w = .ok (.slice (some ⟨w.heap.size, 0, none⟩) 4 4) (w.alloc (.cells (bv (List.replicate 4 false)) 4)) := by kernel_rfl
theorem mkB5 (w : World) : (Instr.makeSlice 66 (.int .i64 ((5 : Nat) : Int)) (.int .i64 ((5 : Nat) : Int))).run Try.prog w = .ok (.slice (some ⟨w.heap.size, 0, none⟩) 5 5) (w.alloc (.cells (bv (List.replicate 5 false)) 4)) := by kernel_rfl
theorem mkB6 (w : World) : (Instr.makeSlice 66 (.int .i64 ((6 : Nat) : Int)) (.int .i64 ((6 : Nat) : Int))).run Try.prog w = .ok (.slice (some ⟨w.heap.size, 0, none⟩) 6 6) (w.alloc (.cells (bv (List.replicate 6 false)) 4)) := by kernel_rfl
theorem mkB7 (w : World) : (Instr.makeSlice 66 (.int .i64 ((7 : Nat) : Int)) (.int .i64 ((7 : Nat) : Int))).run Try.prog w = .ok (.slice (some ⟨w.heap.size, 0, none⟩) 7 7) (w.alloc (.cells (bv (List.replicate 7 false)) 4)) := by kernel_rfl
theorem mkB8 (w : World) : (Instr.makeSlice 66 (.int .i64 ((8 : Nat) : Int)) (.int .i64 ((8 : Nat) : Int))).run Try.prog w = .ok (.slice (some ⟨w.heap.size, 0, none⟩) 8 8) (w.alloc (.cells (bv (List.replicate 8 false)) 4)) := by kernel_rfl
theorem mkBools (n : Nat) (hn : n ≤ 8) (w : World) : (Instr.makeSlice 66 (.int .i64 (n : Int)) (.int .i64 (n : Int))).run Try.prog w = .ok (.slice (some ⟨w.heap.size, 0, none⟩) n n) (w.alloc (.cells (bv (List.replicate n false)) 4)) := by
  have c : n = 0 ∨ n = 1 ∨ n = 2 ∨ n = 3 ∨ n = 4 ∨ n = 5 ∨ n = 6 ∨ n = 7 ∨ n = 8 := by omega
  rcases c with rfl | rfl | rfl | rfl | rfl | rfl | rfl | rfl | rfl
  · exact mkB0 w
  · exact mkB1 w
  · exact mkB2 w
  · exact mkB3 w
  · exact mkB4 w
  · exact mkB5 w
  · exact mkB6 w
  · exact mkB7 w
  · exact mkB8 w

/-- What holds on the way through Slice: the block of what matters, that of what is inside, the steps. -/
structure RSI (M I base : Nat) (a1 : Option Addr) (st : List (Nat × List Int)) (B : List Bool × List Bool) (w W : World) : Prop where
  bM : W.heap[M]? = some (.cells (bv B.1) 4 (0, 0))
  bI : W.heap[I]? = some (.cells (bv B.2) 4 (0, 0))
  st : StepsAt W base a1 st
  below : Below w.heap.size w W
theorem RSI.low {M I base : Nat} {a1 : Option Addr} {st : List (Nat × List Int)} {B : List Bool × List Bool} {w W W' : World} (h : RSI M I base a1 st B w W) (hb : Below W.heap.size W W') : RSI M I base a1 st B w W' :=
  ⟨hp_below h.bM hb (hp_lt h.bM), hp_below h.bI hb (hp_lt h.bI), h.st.below hb (Nat.le_refl _), h.below.trans (hb.mono h.below.size)⟩
theorem RSI.alloc {M I base : Nat} {a1 : Option Addr} {st : List (Nat × List Int)} {B : List Bool × List Bool} {w W : World} (h : RSI M I base a1 st B w W) (o : Obj) : RSI M I base a1 st B w (W.alloc o) :=
  h.low ((Below.refl _ _).alloc (Nat.le_refl _) o)
theorem RSI.putM {M I base : Nat} {a1 : Option Addr} {st : List (Nat × List Int)} {B : List Bool × List Bool} {w W : World} (h : RSI M I base a1 st B w W) (hM : w.heap.size ≤ M) (hMb : M < base) (hn : M ≠ I) (j : Nat) (x : Bool) : RSI M I base a1 st (B.1.set j x, B.2) w (W.setCell ⟨M, j, none⟩ (.bool x)) :=
  ⟨by rw [← bv_set]; exact hp_put h.bM j _, hp_set h.bI (fun e => hn e.symm) _, h.st.put hMb _ _, h.below.setCell (p := ⟨M, j, none⟩) hM _⟩
theorem RSI.putI {M I base : Nat} {a1 : Option Addr} {st : List (Nat × List Int)} {B : List Bool × List Bool} {w W : World} (h : RSI M I base a1 st B w W) (hI : w.heap.size ≤ I) (hIb : I < base) (hn : M ≠ I) (j : Nat) (x : Bool) : RSI M I base a1 st (B.1, B.2.set j x) w (W.setCell ⟨I, j, none⟩ (.bool x)) :=
  ⟨hp_set h.bM hn _, by rw [← bv_set]; exact hp_put h.bI j _, h.st.put hIb _ _, h.below.setCell (p := ⟨I, j, none⟩) hI _⟩

theorem StepsAt.get0 {W : World} {base g k i : Nat} {st : List (Nat × List Int)} {s : List Int} (h : StepsAt W base (some ⟨g, 0, none⟩) st) (hx : st[k]? = some (i, s)) : W.cell? ⟨g, k * 2, none⟩ = some (.int .i64 (i : Int)) := by
  obtain ⟨g', e, _, _, hc⟩ := h.resolve_left (by rintro rfl; simp at hx)
  injection e with e
  injection e with e
  subst e
  exact (hc k i s hx).1
theorem StepsAt.blt {W : World} {base g k i : Nat} {st : List (Nat × List Int)} {s : List Int} (h : StepsAt W base (some ⟨g, 0, none⟩) st) (hx : st[k]? = some (i, s)) : base < W.heap.size := by
  obtain ⟨g', e, h1, h2, hc⟩ := h.resolve_left (by rintro rfl; simp at hx)
  omega
theorem orTo_yes {a m : List Bool} {k : Nat} (h : a.getD k false = true) : orTo a m (k + 1) = (orTo a m k).set k true := by rw [orTo, if_pos h]
theorem orTo_no {a m : List Bool} {k : Nat} (h : a.getD k false = false) : orTo a m (k + 1) = orTo a m k := by rw [orTo, if_neg (by rw [h]; simp)]
theorem set_same {m : List Bool} {k : Nat} {x : Bool} (h : m.getD k false = x) (hk : k < m.length) : m.set k x = m := by
  refine List.ext_getElem? fun i => ?_
  rw [List.getElem?_set]
  split
  · rename_i e; subst e
    obtain ⟨y, hy⟩ := get_of_lt hk
    rw [getD_of_get hy] at h
    subst h
    simp [hy]
  · rfl

theorem orTo_step {a m : List Bool} {k : Nat} {x y : Bool} (hx : (orTo a m k).getD k false = x) (hy : a.getD k false = y) (hk : k < (orTo a m k).length) : (orTo a m k).set k (x || y) = orTo a m (k + 1) := by
  cases y
  · rw [orTo_no hy, Bool.or_false, set_same hx hk]
  · rw [orTo_yes hy, Bool.or_true]
theorem matB_or (l : L) (m : List Bool) : orTo (rd l) (mat1 l m) 4 = matB l m := rfl

theorem foldrSR_1 (p : List L) (n r : Nat) (st : List (Nat × List Int)) : (st.foldr (stR p) (slR0 n r)).1.length = 4 := by
  induction st with
  | nil => simp [slR0]
  | cons x q ih =>
    rw [List.foldr_cons]; unfold stR; simp only
    split
    · simp only [matB_length]; exact ih
    · exact ih
theorem foldrSR_2 (p : List L) (n r : Nat) (st : List (Nat × List Int)) : (st.foldr (stR p) (slR0 n r)).2.length = n := by
  rw [foldrSR_length]; simp [slR0]
theorem drop_step {p : List L} {B0 : List Bool × List Bool} {st : List (Nat × List Int)} {j i : Nat} {s : List Int} (h : st[j]? = some (i, s)) : (st.drop j).foldr (stR p) B0 = stR p (i, s) ((st.drop (j + 1)).foldr (stR p) B0) := by
  obtain ⟨hj, e⟩ := List.getElem?_eq_some_iff.1 h
  rw [List.drop_eq_getElem_cons hj, List.foldr_cons, e]
theorem slA_eq {ps : List L} {s : List Int} {r : Int} (hz : slCode ps s r = 0) (h8 : ps.length ≤ 8) : slA ps s r = plc (((runS ps s).foldr (stR ps) (slR0 ps.length r.toNat)).2) := by
  unfold slA
  rw [if_pos hz]
  exact slice_eq runS_asc h8 runS_lt _

end Go.Proofs.Ytmigkbimdjiigaa
