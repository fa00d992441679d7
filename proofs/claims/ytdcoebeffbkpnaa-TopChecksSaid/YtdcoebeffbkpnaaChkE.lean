/- Several texts in one. -/
import Derived.Test.YtdcoebeffbkpnaaChkA
import Derived.Test.YtdcoebeffbkpnaaRuns
/- Rows, fractions: contracts of check and kit. -/
set_option linter.unusedVariables false
set_option linter.unusedSimpArgs false
namespace Go.Proofs.Ytdcoebeffbkpnaa
open Go.RowKit Tinker

theorem mkIn0 (w : World) : (Instr.makeSlice 25 (.int .i64 ((0 : Nat) : Int)) (.int .i64 ((0 : Nat) : Int))).run Try.prog w = .ok (.slice (some ⟨w.heap.size, 0, none⟩) 0 0) (w.alloc (.cells (iv (List.replicate 0 0)) 3)) := by kernel_rfl
theorem mkIn1 (w : World) : (Instr.makeSlice 25 (.int .i64 ((1 : Nat) : Int)) (.int .i64 ((1 : Nat) : Int))).run Try.prog w = .ok (.slice (some ⟨w.heap.size, 0, none⟩) 1 1) (w.alloc (.cells (iv (List.replicate 1 0)) 3)) := by kernel_rfl
theorem mkIn2 (w : World) : (Instr.makeSlice 25 (.int .i64 ((2 : Nat) : Int)) (.int .i64 ((2 : Nat) : Int))).run Try.prog w = .ok (.slice (some ⟨w.heap.size, 0, none⟩) 2 2) (w.alloc (.cells (iv (List.replicate 2 0)) 3)) := by kernel_rfl
theorem mkIn3 (w : World) : (Instr.makeSlice 25 (.int .i64 ((3 : Nat) : Int)) (.int .i64 ((3 : Nat) : Int))).run Try.prog w = .ok (.slice (some ⟨w.heap.size, 0, none⟩) 3 3) (w.alloc (.cells (iv (List.replicate 3 0)) 3)) := by kernel_rfl
theorem mkIn4 (w : World) : (Instr.makeSlice 25 (.int .i64 ((4 : Nat) : Int)) (.int .i64 ((4 : Nat) : Int))).run Try.prog w = .ok (.slice (some ⟨w.heap.size, 0, none⟩) 4 4) (w.alloc (.cells (iv (List.replicate 4 0)) 3)) := by kernel_rfl
theorem mkIn5 (w : World) : (Instr.makeSlice 25 (.int .i64 ((5 : Nat) : Int)) (.int .i64 ((5 : Nat) : Int))).run Try.prog w = .ok (.slice (some ⟨w.heap.size, 0, none⟩) 5 5) (w.alloc (.cells (iv (List.replicate 5 0)) 3)) := by kernel_rfl
theorem mkIn6 (w : World) : (Instr.makeSlice 25 (.int .i64 ((6 : Nat) : Int)) (.int .i64 ((6 : Nat) : Int))).run Try.prog w = .ok (.slice (some ⟨w.heap.size, 0, none⟩) 6 6) (w.alloc (.cells (iv (List.replicate 6 0)) 3)) := by kernel_rfl
theorem mkIn7 (w : World) : (Instr.makeSlice 25 (.int .i64 ((7 : Nat) : Int)) (.int .i64 ((7 : Nat) : Int))).run Try.prog w = .ok (.slice (some ⟨w.heap.size, 0, none⟩) 7 7) (w.alloc (.cells (iv (List.replicate 7 0)) 3)) := by kernel_rfl
theorem mkIn8 (w : World) : (Instr.makeSlice 25 (.int .i64 ((8 : Nat) : Int)) (.int .i64 ((8 : Nat) : Int))).run Try.prog w = .ok (.slice (some ⟨w.heap.size, 0, none⟩) 8 8) (w.alloc (.cells (iv (List.replicate 8 0)) 3)) := by kernel_rfl
theorem mkInts (n : Nat) (hn : n ≤ 8) (w : World) : (Instr.makeSlice 25 (.int .i64 (n : Int)) (.int .i64 (n : Int))).run Try.prog w = .ok (.slice (some ⟨w.heap.size, 0, none⟩) n n) (w.alloc (.cells (iv (List.replicate n 0)) 3)) := by
  have c : n = 0 ∨ n = 1 ∨ n = 2 ∨ n = 3 ∨ n = 4 ∨ n = 5 ∨ n = 6 ∨ n = 7 ∨ n = 8 := by omega
  rcases c with rfl | rfl | rfl | rfl | rfl | rfl | rfl | rfl | rfl
  · exact mkIn0 w
  · exact mkIn1 w
  · exact mkIn2 w
  · exact mkIn3 w
  · exact mkIn4 w
  · exact mkIn5 w
  · exact mkIn6 w
  · exact mkIn7 w
  · exact mkIn8 w

/-- The row after the first k numbers. -/
def rowTo (n : Nat) (ls : List Int) : Nat → List Int
  | 0 => List.replicate n 0
  | k + 1 => (rowTo n ls k).set (ls.getD k 0).toNat 1
theorem rowTo_length (n : Nat) (ls : List Int) : ∀ k, (rowTo n ls k).length = n
  | 0 => by simp [rowTo]
  | k + 1 => by rw [rowTo, List.length_set]; exact rowTo_length n ls k
/-- Which lines are done, in 1 and 0. -/
def rowL (ps : List L) (s : List Int) : List Int := rowTo ps.length (doneA ps s) (doneA ps s).length
theorem rowL_length (ps : List L) (s : List Int) : (rowL ps s).length = ps.length := rowTo_length _ _ _
theorem done_in {ps : List L} {s : List Int} (hz : vr ps s = 0) : ∀ x ∈ doneA ps s, 0 ≤ x ∧ x < (ps.length : Int) := by
  have h8 := (vp_ok (vr_ok hz).1).1
  have hd : doneA ps s = linesOf (runS ps s) := by unfold doneA; rw [if_pos hz]; exact plc_done runS_asc fun x hx => by have := runS_lt x hx; omega
  rw [hd]
  intro x hx
  unfold linesOf at hx
  obtain ⟨y, hy, rfl⟩ := List.mem_map.1 hx
  have := runS_lt y hy
  omega

/-- A box and a row. -/
structure RowI (M : Nat) (zs : List Int) (w W : World) : Prop where
  bm : W.heap[M]? = some (.cells (iv zs) 3 (0, 0))
  below : Below w.heap.size w W
theorem RowI.low {M : Nat} {zs : List Int} {w W W' : World} (h : RowI M zs w W) (hb : Below W.heap.size W W') : RowI M zs w W' := ⟨hp_below h.bm hb (hp_lt h.bm), h.below.trans (hb.mono h.below.size)⟩
theorem RowI.drew {M : Nat} {zs : List Int} {w W : World} (h : RowI M zs w W) : RowI M zs w W.drew := ⟨hp_drew h.bm, h.below.drew⟩
theorem RowI.put {M : Nat} {zs : List Int} {w W : World} (h : RowI M zs w W) (hM : w.heap.size ≤ M) (j : Nat) (y : Int) : RowI M (zs.set j y) w (W.setCell ⟨M, j, none⟩ (.int .i64 y)) :=
  ⟨by rw [← iv_set]; exact hp_put h.bm _ _, h.below.setCell (p := ⟨M, _, none⟩) hM _⟩
theorem RowI.ints {M : Nat} {zs : List Int} {w W : World} (h : RowI M zs w W) : IntsAt W (some ⟨M, 0, none⟩) zs :=
  .inr ⟨M, 0, rfl, hp_lt h.bm, fun j z hj => by
    rw [Nat.zero_add]
    have := hp_cell h.bm (iv_getN zs j (List.getElem?_eq_some_iff.1 hj).1)
    rwa [getD_of_get hj] at this⟩

theorem cell_heap {w w' : World} {b : Nat} (h : w'.heap[b]? = w.heap[b]?) (o : Nat) : w'.cell? ⟨b, o, none⟩ = w.cell? ⟨b, o, none⟩ := by
  simp only [World.cell?, h]
/-- A store into another block. -/
theorem ints_set {w : World} {a : Option Addr} {zs : List Int} (h : IntsAt w a zs) {M : Nat} (hne : ∀ b o, a = some ⟨b, o, none⟩ → b ≠ M) (j : Nat) (v : Value) : IntsAt (w.setCell ⟨M, j, none⟩ v) a zs := by
  rcases h with h | ⟨b, o, rfl, hlt, hc⟩
  · exact .inl h
  · have hb := hne b o rfl
    have hh := Below.heap_setCell w ⟨M, j, none⟩ v b hb
    refine .inr ⟨b, o, rfl, ?_, fun i n hi => (cell_heap hh _).trans (hc i n hi)⟩
    have : (w.setCell ⟨M, j, none⟩ v).heap.size = w.heap.size := by simp
    omega
theorem own_apart {w : World} {base M : Nat} {e : TypeId} {a : Option Addr} {n c : Nat} {xs : List Value} {sz : Nat} (h : w.ownsRow base e sz (.slice a n c) n xs) (hM : M < base) : ∀ b o, a = some ⟨b, o, none⟩ → b ≠ M := by
  intro b o ha
  rcases h.2 with ⟨he, _⟩ | ⟨g, cap, cur, he, hg, _⟩
  · injection he with h1; subst ha; cases h1
  · injection he with h1
    subst ha
    injection h1 with h1
    injection h1 with h1
    omega

end Go.Proofs.Ytdcoebeffbkpnaa

/- Fractions. -/
set_option linter.unusedVariables false
set_option linter.unusedSimpArgs false
namespace Go.Proofs.Ytdcoebeffbkpnaa
open Go.RowKit Tinker

def fracA (n d : Nat) : Int := ((n / Nat.gcd n d : Nat) : Int)
def fracB (n d : Nat) : Int := ((d / Nat.gcd n d : Nat) : Int)

end Go.Proofs.Ytdcoebeffbkpnaa

/- Scores: the counts. -/
set_option linter.unusedVariables false
set_option linter.unusedSimpArgs false
namespace Go.Proofs.Ytdcoebeffbkpnaa
open Go.RowKit Tinker

theorem getD_set (xs : List Int) (j i : Nat) (v : Int) : (xs.set j v).getD i 0 = if i = j ∧ j < xs.length then v else xs.getD i 0 := by
  rw [List.getD_eq_getElem?_getD, List.getD_eq_getElem?_getD, List.getElem?_set]
  by_cases h : j = i
  · subst h
    by_cases hl : j < xs.length
    · simp [hl]
    · simp [hl]
  · have : ¬ i = j := fun e => h e.symm
    simp [h, this]
/-- The first j numbers of ys are added. -/
def addR (xs ys : List Int) : Nat → List Int
  | 0 => xs
  | j + 1 => (addR xs ys j).set j ((addR xs ys j).getD j 0 + ys.getD j 0)
theorem addR_length (xs ys : List Int) : ∀ j, (addR xs ys j).length = xs.length
  | 0 => rfl
  | j + 1 => by rw [addR, List.length_set]; exact addR_length xs ys j
theorem addR_getD (xs ys : List Int) (i : Nat) : ∀ j, (addR xs ys j).getD i 0 = if i < j ∧ i < xs.length then xs.getD i 0 + ys.getD i 0 else xs.getD i 0
  | 0 => by simp [addR]
  | j + 1 => by
    rw [addR, getD_set, addR_length]
    by_cases h : i = j ∧ j < xs.length
    · obtain ⟨rfl, h2⟩ := h
      rw [if_pos ⟨rfl, h2⟩, if_pos ⟨by omega, h2⟩, addR_getD xs ys i i, if_neg (by omega)]
    · rw [if_neg h, addR_getD xs ys i j]
      by_cases h1 : i < j ∧ i < xs.length
      · rw [if_pos h1, if_pos (by omega)]
      · rw [if_neg h1, if_neg (by omega)]
/-- From 0 to k. -/
def fromTo (xs : List Int) (k : Int) : Prop := ∀ i, 0 ≤ xs.getD i 0 ∧ xs.getD i 0 ≤ k
theorem fromTo_zero (n : Nat) {k : Int} (hk : 0 ≤ k) : fromTo (List.replicate n 0) k := fun i => by
  rw [List.getD_eq_getElem?_getD, List.getElem?_replicate]
  split <;> simp <;> omega
theorem rowTo_01 (n : Nat) (ls : List Int) : ∀ k, fromTo (rowTo n ls k) 1
  | 0 => fromTo_zero n (by omega)
  | k + 1 => fun i => by
    rw [rowTo, getD_set]
    split
    · omega
    · exact rowTo_01 n ls k i
theorem fromTo_add {xs ys : List Int} {k : Int} (h : fromTo xs k) (h2 : fromTo ys 1) (j : Nat) : fromTo (addR xs ys j) (k + 1) := fun i => by
  rw [addR_getD]
  have := h i
  have := h2 i
  split <;> omega
theorem fromTo_mono {xs : List Int} {k m : Int} (h : fromTo xs k) (hm : k ≤ m) : fromTo xs m := fun i => by have := h i; omega

/-- The counts after the first k tests: of the failing ones, of the passing ones, how many fail. -/
def cnt (ps : List L) (ts : List T) : Nat → List Int × List Int × Nat
  | 0 => (List.replicate ps.length 0, List.replicate ps.length 0, 0)
  | k + 1 => match ts[k]? with
    | none => cnt ps ts k
    | some t => if pas ps t then ((cnt ps ts k).1, addR (cnt ps ts k).2.1 (rowL ps t.inn) ps.length, (cnt ps ts k).2.2) else (addR (cnt ps ts k).1 (rowL ps t.inn) ps.length, (cnt ps ts k).2.1, (cnt ps ts k).2.2 + 1)
theorem cnt_yes {ps : List L} {ts : List T} {k : Nat} {t : T} (ht : ts[k]? = some t) (h : pas ps t = true) : cnt ps ts (k + 1) = ((cnt ps ts k).1, addR (cnt ps ts k).2.1 (rowL ps t.inn) ps.length, (cnt ps ts k).2.2) := by rw [cnt]; simp only [ht, h, if_true]
theorem cnt_no {ps : List L} {ts : List T} {k : Nat} {t : T} (ht : ts[k]? = some t) (h : pas ps t = false) : cnt ps ts (k + 1) = (addR (cnt ps ts k).1 (rowL ps t.inn) ps.length, (cnt ps ts k).2.1, (cnt ps ts k).2.2 + 1) := by rw [cnt]; simp only [ht, h]; rfl
theorem cnt_ok (ps : List L) (ts : List T) : ∀ k, (cnt ps ts k).1.length = ps.length ∧ (cnt ps ts k).2.1.length = ps.length ∧ fromTo (cnt ps ts k).1 (k : Int) ∧ fromTo (cnt ps ts k).2.1 (k : Int) ∧ (cnt ps ts k).2.2 ≤ k
  | 0 => ⟨by simp [cnt], by simp [cnt], fromTo_zero _ (by omega), fromTo_zero _ (by omega), Nat.le_refl _⟩
  | k + 1 => by
    obtain ⟨a, b, c, d, e⟩ := cnt_ok ps ts k
    cases ht : ts[k]? with
    | none =>
      have : cnt ps ts (k + 1) = cnt ps ts k := by rw [cnt]; simp only [ht]
      rw [this]
      exact ⟨a, b, fromTo_mono c (by omega), fromTo_mono d (by omega), by omega⟩
    | some t =>
      have r : fromTo (rowL ps t.inn) 1 := rowTo_01 _ _ _
      cases hp : pas ps t
      · rw [cnt_no ht hp]
        refine ⟨by simp only [addR_length]; exact a, b, ?_, fromTo_mono d (by omega), by simp only; omega⟩
        have := fromTo_add c r ps.length
        exact fromTo_mono this (by omega)
      · rw [cnt_yes ht hp]
        refine ⟨a, by simp only [addR_length]; exact b, fromTo_mono c (by omega), ?_, by simp only; omega⟩
        have := fromTo_add d r ps.length
        exact fromTo_mono this (by omega)

/-- Two rows of counts. -/
structure ScI (A B : Nat) (f p : List Int) (w W : World) : Prop where
  ba : W.heap[A]? = some (.cells (iv f) 3 (0, 0))
  bb : W.heap[B]? = some (.cells (iv p) 3 (0, 0))
  ne : A ≠ B
  la : w.heap.size ≤ A
  lb : w.heap.size ≤ B
  below : Below w.heap.size w W
section
variable {A B : Nat} {f p : List Int} {w W W' : World}
theorem ScI.low (h : ScI A B f p w W) (hb : Below W.heap.size W W') : ScI A B f p w W' := ⟨hp_below h.ba hb (hp_lt h.ba), hp_below h.bb hb (hp_lt h.bb), h.ne, h.la, h.lb, h.below.trans (hb.mono h.below.size)⟩
theorem ScI.drew (h : ScI A B f p w W) : ScI A B f p w W.drew := ⟨hp_drew h.ba, hp_drew h.bb, h.ne, h.la, h.lb, h.below.drew⟩
theorem ScI.putA (h : ScI A B f p w W) (j : Nat) (y : Int) : ScI A B (f.set j y) p w (W.setCell ⟨A, j, none⟩ (.int .i64 y)) :=
  ⟨by rw [← iv_set]; exact hp_put h.ba _ _, hp_set h.bb (fun e => h.ne e.symm) _, h.ne, h.la, h.lb, h.below.setCell (p := ⟨A, _, none⟩) h.la _⟩
theorem ScI.putB (h : ScI A B f p w W) (j : Nat) (y : Int) : ScI A B f (p.set j y) w (W.setCell ⟨B, j, none⟩ (.int .i64 y)) :=
  ⟨hp_set h.ba h.ne _, by rw [← iv_set]; exact hp_put h.bb _ _, h.ne, h.la, h.lb, h.below.setCell (p := ⟨B, _, none⟩) h.lb _⟩
end

/-- The cells of fractions. -/
def qc : List (Int × Int) → List Value
  | [] => []
  | q :: r => .int .i64 q.1 :: .int .i64 q.2 :: qc r
theorem qc_length : ∀ (qs : List (Int × Int)), (qc qs).length = qs.length * 2
  | [] => rfl
  | q :: r => by simp [qc, qc_length r]; omega
theorem qc_get : ∀ {qs : List (Int × Int)} {i : Nat} {q : Int × Int}, qs[i]? = some q → (qc qs)[i * 2]? = some (.int .i64 q.1) ∧ (qc qs)[i * 2 + 1]? = some (.int .i64 q.2)
  | [], i, q, h => by simp at h
  | x :: r, 0, q, h => by simp at h; subst h; simp [qc]
  | x :: r, i + 1, q, h => by
    have ih := qc_get (qs := r) (i := i) (by simpa using h)
    rw [qc, show (i + 1) * 2 = i * 2 + 2 by omega]
    simpa using ih
theorem qc_set : ∀ {qs : List (Int × Int)} {i : Nat} (q : Int × Int), i < qs.length → qc (qs.set i q) = ((qc qs).set (i * 2) (.int .i64 q.1)).set (i * 2 + 1) (.int .i64 q.2)
  | [], i, q, h => by simp at h
  | x :: r, 0, q, h => rfl
  | x :: r, i + 1, q, h => by
    have ih := qc_set (qs := r) (i := i) q (by simpa using h)
    rw [List.set_cons_succ, qc, ih, show (i + 1) * 2 = i * 2 + 2 by omega]
    rfl
def qv (qs : List (Int × Int)) : Array Value := (qc qs).toArray
theorem qv_set {qs : List (Int × Int)} {i : Nat} (q : Int × Int) (h : i < qs.length) : ((qv qs).setIfInBounds (i * 2) (.int .i64 q.1)).setIfInBounds (i * 2 + 1) (.int .i64 q.2) = qv (qs.set i q) := by
  unfold qv
  rw [List.setIfInBounds_toArray, List.setIfInBounds_toArray, qc_set q h]
theorem qv_get {qs : List (Int × Int)} {i : Nat} {q : Int × Int} (h : qs[i]? = some q) : (qv qs)[i * 2]? = some (.int .i64 q.1) ∧ (qv qs)[i * 2 + 1]? = some (.int .i64 q.2) := by
  unfold qv
  simpa using qc_get h
/-- The score of a line. -/
def scN (ps : List L) (ts : List T) (i : Nat) : Nat := ((cnt ps ts ts.length).1.getD i 0).toNat
def scD (ps : List L) (ts : List T) (i : Nat) : Nat := max 1 ((cnt ps ts ts.length).2.2 + ((cnt ps ts ts.length).2.1.getD i 0).toNat)
def scQ (ps : List L) (ts : List T) (i : Nat) : Int × Int := (fracA (scN ps ts i) (scD ps ts i), fracB (scN ps ts i) (scD ps ts i))
def scTo (ps : List L) (ts : List T) : Nat → List (Int × Int)
  | 0 => List.replicate ps.length (0, 0)
  | k + 1 => (scTo ps ts k).set k (scQ ps ts k)
theorem scTo_length (ps : List L) (ts : List T) : ∀ k, (scTo ps ts k).length = ps.length
  | 0 => by simp [scTo]
  | k + 1 => by rw [scTo, List.length_set]; exact scTo_length ps ts k
def scL (ps : List L) (ts : List T) : List (Int × Int) := scTo ps ts ps.length

theorem scI_ab (w : World) (n : Nat) : ScI w.heap.size (w.heap.size + 1) (List.replicate n 0) (List.replicate n 0) w (((w.alloc (.cells (iv (List.replicate n 0)) 3)).alloc (.cells (iv (List.replicate n 0)) 3)).drew) :=
  ⟨hp_alloc (hp_new rfl), hp_new (by simp), by omega, Nat.le_refl _, by omega, (((Below.refl _ _).alloc (Nat.le_refl _) _).alloc (by simp) _).drew⟩
theorem scI_ba (w : World) (n : Nat) : ScI (w.heap.size + 1) w.heap.size (List.replicate n 0) (List.replicate n 0) w (((w.alloc (.cells (iv (List.replicate n 0)) 3)).alloc (.cells (iv (List.replicate n 0)) 3)).drew) :=
  ⟨hp_new (by simp), hp_alloc (hp_new rfl), by omega, by omega, Nat.le_refl _, (((Below.refl _ _).alloc (Nat.le_refl _) _).alloc (by simp) _).drew⟩

end Go.Proofs.Ytdcoebeffbkpnaa

/- Scores; equal fractions; the law's own known. -/
set_option linter.unusedVariables false
set_option linter.unusedSimpArgs false
namespace Go.Proofs.Ytdcoebeffbkpnaa
open Go.RowKit Tinker

/-- The tests of the example. -/
def exT : List T := [⟨[0, 0, 0, 0], 0, 6⟩, ⟨[0, 0, 0, 0], 0, 7⟩]
theorem exT_0 : vpt exP exT = 0 := by decide
theorem exT_1 : scL exP exT = [(1, 2), (1, 2)] := by
  have r : runE exP [0, 0, 0, 0] = [6, 0, 0, 0] := by unfold runE; rw [ex_run]
  have d : doneA exP [0, 0, 0, 0] = [0, 1] := by unfold doneA runS; rw [if_pos (exTr _ rfl (by decide)), ex_run]; decide
  have p1 : pas exP ⟨[0, 0, 0, 0], 0, 6⟩ = true := by unfold pas endP; simp only; rw [r]; rfl
  have p2 : pas exP ⟨[0, 0, 0, 0], 0, 7⟩ = false := by unfold pas endP; simp only; rw [r]; rfl
  have w : rowL exP [0, 0, 0, 0] = [1, 1] := by unfold rowL; rw [d]; rfl
  have c1 : cnt exP exT 1 = ([0, 0], [1, 1], 0) := by
    rw [cnt_yes (t := ⟨[0, 0, 0, 0], 0, 6⟩) rfl p1]
    simp only [w]
    rfl
  have c2 : cnt exP exT 2 = ([1, 1], [1, 1], 1) := by
    rw [cnt_no (t := ⟨[0, 0, 0, 0], 0, 7⟩) rfl p2, c1]
    simp only [w]
    rfl
  have q : ∀ i, i < 2 → scQ exP exT i = (1, 2) := by
    intro i hi
    have h : i = 0 ∨ i = 1 := by omega
    unfold scQ scN scD
    rw [show exT.length = 2 from rfl, c2]
    rcases h with rfl | rfl <;> decide
  show (((List.replicate 2 ((0, 0) : Int × Int)).set 0 (scQ exP exT 0)).set 1 (scQ exP exT 1)) = _
  rw [q 0 (by omega), q 1 (by omega)]
  rfl
theorem exB_0 : vcon [0, 0, 0, 0] [1, 0, 0, 2] 3 0 1 = 0 := by decide
theorem exB_1 : boxN [0, 0, 0, 0] [1, 0, 0, 2] 3 0 1 = 6 := by decide

end Go.Proofs.Ytdcoebeffbkpnaa
