/- Slice of the document's answers: contract. -/
import Derived.Test.YtjciojoeifekeaaRefC
import Derived.Test.YtjciojoeifekeaaPlain
import Derived.Test.YtjciojoeifekeaaKnownT
set_option linter.unusedVariables false
set_option linter.unusedSimpArgs false
namespace Go.Proofs.Ytjciojoeifekeaa
open Go.RowKit Tinker

theorem rIsRegister_any (n : Int) (w : World) : Calls Try.prog 45 #[.int .i64 n] w fun e w' => e = .returned (.bool (isReg n)) ∧ w = w' := by
  unfold isReg
  go_enter Try.func45, Try.ntmps45
  go_wp2_with (go_at_call 46; refine (within_any _ _ _ _).mono ?_; rintro e w' ⟨rfl, rfl⟩)
  go_ret
  exact ⟨rfl, rfl⟩

/-- What holds on the way through Slice: the block of what matters, that of what is inside, the steps. -/
structure RSI (M I base : Nat) (a1 : Option Addr) (st : List (Nat × List Int)) (B : List Bool × List Bool) (w W : World) : Prop where
  bM : W.heap[M]? = some (.cells (bv B.1) 4 (0, 0))
  bI : W.heap[I]? = some (.cells (bv B.2) 4 (0, 0))
  st : StepsAt W base a1 st
  below : Below w.heap.size w W
theorem RSI.low {M I base : Nat} {a1 : Option Addr} {st : List (Nat × List Int)} {B : List Bool × List Bool} {w W W' : World} (h : RSI M I base a1 st B w W) (hb : Below W.heap.size W W') : RSI M I base a1 st B w W' :=
  ⟨hp_below h.bM hb (hp_lt h.bM), hp_below h.bI hb (hp_lt h.bI), h.st.below hb (Nat.le_refl _), h.below.trans (hb.mono h.below.size)⟩
theorem RSI.alloc {M I base : Nat} {a1 : Option Addr} {st : List (Nat × List Int)} {B : List Bool × List Bool} {w W : World} (h : RSI M I base a1 st B w W) (o : Obj) : RSI M I base a1 st B w (W.alloc o) :=
  h.low ((Below.refl _ _).alloc (Nat.le_refl _) o)
theorem RSI.putM {M I base : Nat} {a1 : Option Addr} {st : List (Nat × List Int)} {B : List Bool × List Bool} {w W : World} (h : RSI M I base a1 st B w W) (hM : w.heap.size ≤ M) (hMb : M < base) (hn : M ≠ I) (j : Nat) (x : Bool) : RSI M I base a1 st (B.1.set j x, B.2) w (W.setCell ⟨M, j, none⟩ (.bool x)) :=
  ⟨by rw [← bv_set]; exact hp_put h.bM j _, hp_set h.bI (fun e => hn e.symm) _, h.st.put hMb _ _, h.below.setCell (p := ⟨M, j, none⟩) hM _⟩
theorem RSI.putI {M I base : Nat} {a1 : Option Addr} {st : List (Nat × List Int)} {B : List Bool × List Bool} {w W : World} (h : RSI M I base a1 st B w W) (hI : w.heap.size ≤ I) (hIb : I < base) (hn : M ≠ I) (j : Nat) (x : Bool) : RSI M I base a1 st (B.1, B.2.set j x) w (W.setCell ⟨I, j, none⟩ (.bool x)) :=
  ⟨hp_set h.bM hn _, by rw [← bv_set]; exact hp_put h.bI j _, h.st.put hIb _ _, h.below.setCell (p := ⟨I, j, none⟩) hI _⟩

theorem StepsAt.get0 {W : World} {base g k i : Nat} {st : List (Nat × List Int)} {s : List Int} (h : StepsAt W base (some ⟨g, 0, none⟩) st) (hx : st[k]? = some (i, s)) : W.cell? ⟨g, k * 2, none⟩ = some (.int .i64 (i : Int)) := by
  obtain ⟨g', e, _, _, hc⟩ := h.resolve_left (by rintro rfl; simp at hx)
  injection e with e
  injection e with e
  subst e
  exact (hc k i s hx).1
theorem StepsAt.blt {W : World} {base g k i : Nat} {st : List (Nat × List Int)} {s : List Int} (h : StepsAt W base (some ⟨g, 0, none⟩) st) (hx : st[k]? = some (i, s)) : base < W.heap.size := by
  obtain ⟨g', e, h1, h2, hc⟩ := h.resolve_left (by rintro rfl; simp at hx)
  omega
theorem orTo_yes {a m : List Bool} {k : Nat} (h : a.getD k false = true) : orTo a m (k + 1) = (orTo a m k).set k true := by rw [orTo, if_pos h]
theorem orTo_no {a m : List Bool} {k : Nat} (h : a.getD k false = false) : orTo a m (k + 1) = orTo a m k := by rw [orTo, if_neg (by rw [h]; simp)]
theorem set_same {m : List Bool} {k : Nat} {x : Bool} (h : m.getD k false = x) (hk : k < m.length) : m.set k x = m := by
  refine List.ext_getElem? fun i => ?_
  rw [List.getElem?_set]
  split
  · rename_i e; subst e
    obtain ⟨y, hy⟩ := get_of_lt hk
    rw [getD_of_get hy] at h
    subst h
    simp [hy]
  · rfl

theorem orTo_step {a m : List Bool} {k : Nat} {x y : Bool} (hx : (orTo a m k).getD k false = x) (hy : a.getD k false = y) (hk : k < (orTo a m k).length) : (orTo a m k).set k (x || y) = orTo a m (k + 1) := by
  cases y
  · rw [orTo_no hy, Bool.or_false, set_same hx hk]
  · rw [orTo_yes hy, Bool.or_true]
theorem matB_or (l : L) (m : List Bool) : orTo (rd l) (mat1 l m) 4 = matB l m := rfl

theorem foldrSR_1 (p : List L) (n r : Nat) (st : List (Nat × List Int)) : (st.foldr (stR p) (slR0 n r)).1.length = 4 := by
  induction st with
  | nil => simp [slR0]
  | cons x q ih =>
    rw [List.foldr_cons]; unfold stR; simp only
    split
    · simp only [matB_length]; exact ih
    · exact ih
theorem foldrSR_2 (p : List L) (n r : Nat) (st : List (Nat × List Int)) : (st.foldr (stR p) (slR0 n r)).2.length = n := by
  rw [foldrSR_length]; simp [slR0]
theorem drop_step {p : List L} {B0 : List Bool × List Bool} {st : List (Nat × List Int)} {j i : Nat} {s : List Int} (h : st[j]? = some (i, s)) : (st.drop j).foldr (stR p) B0 = stR p (i, s) ((st.drop (j + 1)).foldr (stR p) B0) := by
  obtain ⟨hj, e⟩ := List.getElem?_eq_some_iff.1 h
  rw [List.drop_eq_getElem_cons hj, List.foldr_cons, e]
theorem slA_eq {ps : List L} {s : List Int} {r : Int} (hz : slCode ps s r = 0) (h8 : ps.length ≤ 8) : slA ps s r = plc (((runS ps s).foldr (stR ps) (slR0 ps.length r.toNat)).2) := by
  unfold slA
  rw [if_pos hz]
  exact slice_eq runS_asc h8 runS_lt _

end Go.Proofs.Ytjciojoeifekeaa
