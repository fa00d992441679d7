/- Several texts in one. -/
import Derived.Test.YtndmjenfgggfbaaChkA
import Derived.Test.YtndmjenfgggfbaaRuns
/- Rows, fractions: contracts of check and kit. -/
set_option linter.unusedVariables false
set_option linter.unusedSimpArgs false
namespace Go.Proofs.Ytndmjenfgggfbaa
open Go.RowKit Tinker

theorem mkIn0 (w : World) : (Instr.makeSlice 23 (.int .i64 ((0 : Nat) : Int)) (.int .i64 ((0 : Nat) : Int))).run Try.prog w = .ok (.slice (some ⟨w.heap.size, 0, none⟩) 0 0) (w.alloc (.cells (iv (List.replicate 0 0)) 3)) := by kernel_rfl
theorem mkIn1 (w : World) : (Instr.makeSlice 23 (.int .i64 ((1 : Nat) : Int)) (.int .i64 ((1 : Nat) : Int))).run Try.prog w = .ok (.slice (some ⟨w.heap.size, 0, none⟩) 1 1) (w.alloc (.cells (iv (List.replicate 1 0)) 3)) := by kernel_rfl
theorem mkIn2 (w : World) : (Instr.makeSlice 23 (.int .i64 ((2 : Nat) : Int)) (.int .i64 ((2 : Nat) : Int))).run Try.prog w = .ok (.slice (some ⟨w.heap.size, 0, none⟩) 2 2) (w.alloc (.cells (iv (List.replicate 2 0)) 3)) := by kernel_rfl
theorem mkIn3 (w : World) : (Instr.makeSlice 23 (.int .i64 ((3 : Nat) : Int)) (.int .i64 ((3 : Nat) : Int))).run Try.prog w = .ok (.slice (some ⟨w.heap.size, 0, none⟩) 3 3) (w.alloc (.cells (iv (List.replicate 3 0)) 3)) := by kernel_rfl
theorem mkIn4 (w : World) : (Instr.makeSlice 23 (.int .i64 ((4 : Nat) : Int)) (.int .i64 ((4 : Nat) : Int))).run Try.prog w = .ok (.slice (some ⟨w.heap.size, 0, none⟩) 4 4) (w.alloc (.cells (iv (List.replicate 4 0)) 3)) := by kernel_rfl
theorem mkIn5 (w : World) : (Instr.makeSlice 23 (.int .i64 ((5 : Nat) : Int)) (.int .i64 ((5 : Nat) : Int))).run Try.prog w = .ok (.slice (some ⟨w.heap.size, 0, none⟩) 5 5) (w.alloc (.cells (iv (List.replicate 5 0)) 3)) := by kernel_rfl
theorem mkIn6 (w : World) : (Instr.makeSlice 23 (.int .i64 ((6 : Nat) : Int)) (.int .i64 ((6 : Nat) : Int))).run Try.prog w = .ok (.slice (some ⟨w.heap.size, 0, none⟩) 6 6) (w.alloc (.cells (iv (List.replicate 6 0)) 3)) := by kernel_rfl
theorem mkIn7 (w : World) : (Instr.makeSlice 23 (.int .i64 ((7 : Nat) : Int)) (.int .i64 ((7 : Nat) : Int))).run Try.prog w = .ok (.slice (some ⟨w.heap.size, 0, none⟩) 7 7) (w.alloc (.cells (iv (List.replicate 7 0)) 3)) := by kernel_rfl
theorem mkIn8 (w : World) : (Instr.makeSlice 23 (.int .i64 ((8 : Nat) : Int)) (.int .i64 ((8 : Nat) : Int))).run Try.prog w = .ok (.slice (some ⟨w.heap.size, 0, none⟩) 8 8) (w.alloc (.cells (iv (List.replicate 8 0)) 3)) := by kernel_rfl
theorem mkInts (n : Nat) (hn : n ≤ 8) (w : World) : (Instr.makeSlice 23 (.int .i64 (n : Int)) (.int .i64 (n : Int))).run Try.prog w = .ok (.slice (some ⟨w.heap.size, 0, none⟩) n n) (w.alloc (.cells (iv (List.replicate n 0)) 3)) := by
  have c : n = 0 ∨ n = 1 ∨ n = 2 ∨ n = 3 ∨ n = 4 ∨ n = 5 ∨ n = 6 ∨ n = 7 ∨ n = 8 := by omega
  rcases c with rfl | rfl | rfl | rfl | rfl | rfl | rfl | rfl | rfl
  · exact mkIn0 w
  · exact mkIn1 w
  · exact mkIn2 w
  · exact mkIn3 w
  · exact mkIn4 w
  · exact mkIn5 w
  · exact mkIn6 w
  · exact mkIn7 w
  · exact mkIn8 w

/-- The row after the first k numbers. -/
def rowTo (n : Nat) (ls : List Int) : Nat → List Int
  | 0 => List.replicate n 0
  | k + 1 => (rowTo n ls k).set (ls.getD k 0).toNat 1
theorem rowTo_length (n : Nat) (ls : List Int) : ∀ k, (rowTo n ls k).length = n
  | 0 => by simp [rowTo]
  | k + 1 => by rw [rowTo, List.length_set]; exact rowTo_length n ls k
/-- Which lines are done, in 1 and 0. -/
def rowL (ps : List L) (s : List Int) : List Int := rowTo ps.length (doneA ps s) (doneA ps s).length
theorem rowL_length (ps : List L) (s : List Int) : (rowL ps s).length = ps.length := rowTo_length _ _ _
theorem done_in {ps : List L} {s : List Int} (hz : vr ps s = 0) : ∀ x ∈ doneA ps s, 0 ≤ x ∧ x < (ps.length : Int) := by
  have h8 := (vp_ok (vr_ok hz).1).1
  have hd : doneA ps s = linesOf (runS ps s) := by unfold doneA; rw [if_pos hz]; exact plc_done runS_asc fun x hx => by have := runS_lt x hx; omega
  rw [hd]
  intro x hx
  unfold linesOf at hx
  obtain ⟨y, hy, rfl⟩ := List.mem_map.1 hx
  have := runS_lt y hy
  omega

/-- A box and a row. -/
structure RowI (M : Nat) (zs : List Int) (w W : World) : Prop where
  bm : W.heap[M]? = some (.cells (iv zs) 3 (0, 0))
  below : Below w.heap.size w W
theorem RowI.low {M : Nat} {zs : List Int} {w W W' : World} (h : RowI M zs w W) (hb : Below W.heap.size W W') : RowI M zs w W' := ⟨hp_below h.bm hb (hp_lt h.bm), h.below.trans (hb.mono h.below.size)⟩
theorem RowI.drew {M : Nat} {zs : List Int} {w W : World} (h : RowI M zs w W) : RowI M zs w W.drew := ⟨hp_drew h.bm, h.below.drew⟩
theorem RowI.put {M : Nat} {zs : List Int} {w W : World} (h : RowI M zs w W) (hM : w.heap.size ≤ M) (j : Nat) (y : Int) : RowI M (zs.set j y) w (W.setCell ⟨M, j, none⟩ (.int .i64 y)) :=
  ⟨by rw [← iv_set]; exact hp_put h.bm _ _, h.below.setCell (p := ⟨M, _, none⟩) hM _⟩
theorem RowI.ints {M : Nat} {zs : List Int} {w W : World} (h : RowI M zs w W) : IntsAt W (some ⟨M, 0, none⟩) zs :=
  .inr ⟨M, 0, rfl, hp_lt h.bm, fun j z hj => by
    rw [Nat.zero_add]
    have := hp_cell h.bm (iv_getN zs j (List.getElem?_eq_some_iff.1 hj).1)
    rwa [getD_of_get hj] at this⟩

theorem cell_heap {w w' : World} {b : Nat} (h : w'.heap[b]? = w.heap[b]?) (o : Nat) : w'.cell? ⟨b, o, none⟩ = w.cell? ⟨b, o, none⟩ := by
  simp only [World.cell?, h]
/-- A store into another block. -/
theorem ints_set {w : World} {a : Option Addr} {zs : List Int} (h : IntsAt w a zs) {M : Nat} (hne : ∀ b o, a = some ⟨b, o, none⟩ → b ≠ M) (j : Nat) (v : Value) : IntsAt (w.setCell ⟨M, j, none⟩ v) a zs := by
  rcases h with h | ⟨b, o, rfl, hlt, hc⟩
  · exact .inl h
  · have hb := hne b o rfl
    have hh := Below.heap_setCell w ⟨M, j, none⟩ v b hb
    refine .inr ⟨b, o, rfl, ?_, fun i n hi => (cell_heap hh _).trans (hc i n hi)⟩
    have : (w.setCell ⟨M, j, none⟩ v).heap.size = w.heap.size := by simp
    omega
theorem own_apart {w : World} {base M : Nat} {e : TypeId} {a : Option Addr} {n c : Nat} {xs : List Value} {sz : Nat} (h : w.ownsRow base e sz (.slice a n c) n xs) (hM : M < base) : ∀ b o, a = some ⟨b, o, none⟩ → b ≠ M := by
  intro b o ha
  rcases h.2 with ⟨he, _⟩ | ⟨g, cap, cur, he, hg, _⟩
  · injection he with h1; subst ha; cases h1
  · injection he with h1
    subst ha
    injection h1 with h1
    injection h1 with h1
    omega

set_option maxRecDepth 100000 in
set_option maxHeartbeats 2000000 in
theorem row_any (a b : Option Addr) (ca cb : Nat) (ps : List L) (s : List Int) (out want : Int) (w : World) (hp : LinesAt w a ps) (hs : IntsAt w b s) (hz : vr ps s = 0) :
    Calls Try.prog 72 #[.slice a ps.length ca, .agg #[.slice b s.length cb, .int .i64 out, .int .i64 want]] w fun e w' => ∃ M, e = .returned (.slice (some ⟨M, 0, none⟩) ps.length ps.length) ∧ w.heap.size ≤ M ∧ RowI M (rowL ps s) w w' := by
  have h4 := (vs_ok (vr_ok hz).2).1
  have h8 := (vp_ok (vr_ok hz).1).1
  have HD := Lib.hid (fun w hp hs => done_any a b ca cb ps s w hp hs (by omega))
  rw [hz] at HD
  have HIN := Lib.hid (done_in hz)
  have D8 := doneA_len ps s
  have HL := Lib.hid (show rowL ps s = rowTo ps.length (doneA ps s) (doneA ps s).length from rfl)
  generalize rowL ps s = R at HL
  generalize doneA ps s = D at HD HIN HL D8
  have HI := Lib.hid (boxT_new (a := b) (n := s.length) (ca := cb) (out := out) (want := want) w)
  have hmk := mkInts ps.length h8
  have H8 := Lib.hid h8
  clear hz h4 h8
  go_enter Try.func72, Try.ntmps72
  have x0 := HI.out.c0
  have hz0 := hp_alloc (o' := .cells (iv (List.replicate ps.length 0)) 3) HI.out.bl
  have y0 := hp_cell hz0 (j := 0) (by rfl)
  go_wp2_with fail
  clear hmk
  have hR : RowI (w.heap.size + 1) (rowTo ps.length D 0) w ((w.alloc (.cells #[.slice b s.length cb, .int .i64 out, .int .i64 want] 25)).alloc (.cells (iv (List.replicate ps.length 0)) 3)) := ⟨hp_new (by simp), HI.out.below.alloc HI.out.below.size _⟩
  have hM : w.heap.size ≤ w.heap.size + 1 := by omega
  generalize w.heap.size + 1 = M at hR hM
  refine (HD.out _ (hp.below hR.below (Nat.le_refl _)) (hs.below hR.below (Nat.le_refl _))).mono ?_
  intro e w1 hG
  obtain ⟨a1, k1, rfl, ho1, hB1⟩ := hG
  have HD1 := Lib.hid (ints_of_own ho1).1
  have HA1 := Lib.hid (own_apart ho1 (hp_lt hR.bm))
  have HR := Lib.hid (hR.low hB1)
  clear ho1 hB1 hR x0 y0 hz0 HI HD
  go_wp2_with fail
  go_loopw [22] (fun s22 wr => ∃ k : Nat, k ≤ D.length ∧ s22 = .int .i64 k ∧ RowI M (rowTo ps.length D k) w wr ∧ IntsAt wr a1 D) (fun s22 _ => D.length - (intOf s22).toNat)
  case atStart => exact ⟨0, by omega, rfl, HR.out, HD1.out⟩
  case round =>
    clear HR HD1
    obtain ⟨k, hk, rfl, hI, hd⟩ := hrel
    by_cases hlt : k < D.length
    · obtain ⟨sb, so, x, rfl, hsb, hx, z0⟩ := hd.at_ hlt
      obtain ⟨r0, r3⟩ := HIN.out x (mem_of_get hx)
      have m1 := hp_cell hI.bm (iv_get (rowTo ps.length D k) x (by rw [rowTo_length]; omega))
      have m2 := hp_free hI.bm x.toNat
      have HX := Lib.hid hx
      have HI := Lib.hid hI
      have HDD := Lib.hid hd
      clear hx hI hd
      go_wp2_with fail
      go_roundw
      case rel => exact ⟨k + 1, by omega, by go_num, by rw [rowTo, getD_of_get HX.out]; exact HI.out.put hM _ _, ints_set HDD.out HA1.out _ _⟩
      case measure => simp [intOf]; omega
    · have hk4 : k = D.length := by omega
      subst hk4
      have HI := Lib.hid hI
      clear hI
      go_wp2_with fail
      go_ret
      exact ⟨M, rfl, hM, by rw [HL.out]; exact HI.out⟩

end Go.Proofs.Ytndmjenfgggfbaa

/- Fractions. -/
set_option linter.unusedVariables false
set_option linter.unusedSimpArgs false
namespace Go.Proofs.Ytndmjenfgggfbaa
open Go.RowKit Tinker

def fracA (n d : Nat) : Int := ((n / Nat.gcd n d : Nat) : Int)
def fracB (n d : Nat) : Int := ((d / Nat.gcd n d : Nat) : Int)

set_option maxRecDepth 100000 in
set_option maxHeartbeats 2000000 in
theorem fraction_any (n d : Nat) (w : World) (hn : n ≤ 1000) (hd : d ≤ 1000) (h0 : 1 ≤ d) :
    Calls Try.prog 109 #[.int .i64 (n : Int), .int .i64 (d : Int)] w fun e w' => e = .returned (.agg #[.int .i64 (fracA n d), .int .i64 (fracB n d)]) ∧ Below w.heap.size w w' := by
  go_enter Try.func109, Try.ntmps109
  go_wp2_with fail
  go_loopw [5, 6] (fun s5 s6 wr => ∃ x y : Nat, s5 = .int .i64 (x : Int) ∧ s6 = .int .i64 (y : Int) ∧ Nat.gcd x y = Nat.gcd n d ∧ x ≤ 1000 ∧ y ≤ 1000 ∧ wr.heap[w.heap.size]? = some (.cells #[.int .i64 0, .int .i64 0] 49 (0, 0)) ∧ Below w.heap.size w wr) (fun _ s6 _ => (intOf s6).toNat)
  case atStart => exact ⟨n, d, rfl, rfl, rfl, hn, hd, hp_new rfl, (Below.refl _ _).alloc (Nat.le_refl _) _⟩
  case round =>
    obtain ⟨x, y, rfl, rfl, hg, hx, hy, hb, hB⟩ := hrel
    have HG := Lib.hid hg
    have HBL := Lib.hid hb
    have HB := Lib.hid hB
    clear hg hb hB
    by_cases hlt : 0 < y
    · have hy0 : (0 : Int) < (y : Int) := by omega
      have hyne : ((y : Int) == 0) = false := by simp; omega
      have hyne2 : (y : Int) ≠ 0 := by omega
      go_wp2_with fail
      go_quiet (fail)
      go_wp2_with fail
      go_roundw
      case rel => exact ⟨y, x % y, rfl, by rw [Int.natCast_emod], by rw [Nat.gcd_comm, ← Nat.gcd_rec, Nat.gcd_comm]; exact HG.out, hy, by have := Nat.mod_lt x hlt; omega, HBL.out, HB.out.trans ⟨rfl, rfl, rfl, Nat.le_refl _, fun _ _ => rfl⟩⟩
      case measure =>
        have := Nat.mod_lt x hlt
        simp [intOf]
        omega
    · have : y = 0 := by omega
      subst this
      have hx1 : 1 ≤ x := by
        have := HG.out
        rw [Nat.gcd_zero_right] at this
        rw [this]
        exact Nat.gcd_pos_of_pos_right _ h0
      have hxne : ((x : Int) == 0) = false := by simp; omega
      have hxne2 : (x : Int) ≠ 0 := by omega
      have c0 := hp_cell HBL.out (j := 0) (by rfl)
      have c1 := hp_cell HBL.out (j := 1) (by rfl)
      have f0 := hp_free HBL.out 0
      have f1 := hp_free HBL.out 1
      go_wp2_with fail
      go_region
      all_goals go_wp2_with fail
      have q1 : wrap64 ((n : Int) / (x : Int)) = fracA n d := by
        have hg := HG.out
        rw [Nat.gcd_zero_right] at hg
        unfold fracA
        rw [← hg, ← Int.natCast_ediv]
        have := Nat.div_le_self n x
        generalize n / x = q at this ⊢
        unfold wrap64; omega
      have q2 : wrap64 ((d : Int) / (x : Int)) = fracB n d := by
        have hg := HG.out
        rw [Nat.gcd_zero_right] at hg
        unfold fracB
        rw [← hg, ← Int.natCast_ediv]
        have := Nat.div_le_self d x
        generalize d / x = q at this ⊢
        unfold wrap64; omega
      rw [q1, q2]
      refine bodyPost_ret (v := .agg #[.int .i64 (fracA n d), .int .i64 (fracB n d)]) ?_ rfl ⟨rfl, ((HB.out.setCell (p := ⟨w.heap.size, _, none⟩) (Nat.le_refl _) _).setCell (p := ⟨w.heap.size, _, none⟩) (Nat.le_refl _) _).drew⟩
      exact results_cell_row (p := 4) (ty := 49) rfl _ _ w.heap.size 49 _ (0, 0) _ (by rfl) (hp_put (hp_put HBL.out 0 _) 1 _) Try.underlying49 rfl (by kernel_rfl)

end Go.Proofs.Ytndmjenfgggfbaa

/- Scores: the counts. -/
set_option linter.unusedVariables false
set_option linter.unusedSimpArgs false
namespace Go.Proofs.Ytndmjenfgggfbaa
open Go.RowKit Tinker

theorem getD_set (xs : List Int) (j i : Nat) (v : Int) : (xs.set j v).getD i 0 = if i = j ∧ j < xs.length then v else xs.getD i 0 := by
  rw [List.getD_eq_getElem?_getD, List.getD_eq_getElem?_getD, List.getElem?_set]
  by_cases h : j = i
  · subst h
    by_cases hl : j < xs.length
    · simp [hl]
    · simp [hl]
  · have : ¬ i = j := fun e => h e.symm
    simp [h, this]
/-- The first j numbers of ys are added. -/
def addR (xs ys : List Int) : Nat → List Int
  | 0 => xs
  | j + 1 => (addR xs ys j).set j ((addR xs ys j).getD j 0 + ys.getD j 0)
theorem addR_length (xs ys : List Int) : ∀ j, (addR xs ys j).length = xs.length
  | 0 => rfl
  | j + 1 => by rw [addR, List.length_set]; exact addR_length xs ys j
theorem addR_getD (xs ys : List Int) (i : Nat) : ∀ j, (addR xs ys j).getD i 0 = if i < j ∧ i < xs.length then xs.getD i 0 + ys.getD i 0 else xs.getD i 0
  | 0 => by simp [addR]
  | j + 1 => by
    rw [addR, getD_set, addR_length]
    by_cases h : i = j ∧ j < xs.length
    · obtain ⟨rfl, h2⟩ := h
      rw [if_pos ⟨rfl, h2⟩, if_pos ⟨by omega, h2⟩, addR_getD xs ys i i, if_neg (by omega)]
    · rw [if_neg h, addR_getD xs ys i j]
      by_cases h1 : i < j ∧ i < xs.length
      · rw [if_pos h1, if_pos (by omega)]
      · rw [if_neg h1, if_neg (by omega)]
/-- From 0 to k. -/
def fromTo (xs : List Int) (k : Int) : Prop := ∀ i, 0 ≤ xs.getD i 0 ∧ xs.getD i 0 ≤ k
theorem fromTo_zero (n : Nat) {k : Int} (hk : 0 ≤ k) : fromTo (List.replicate n 0) k := fun i => by
  rw [List.getD_eq_getElem?_getD, List.getElem?_replicate]
  split <;> simp <;> omega
theorem rowTo_01 (n : Nat) (ls : List Int) : ∀ k, fromTo (rowTo n ls k) 1
  | 0 => fromTo_zero n (by omega)
  | k + 1 => fun i => by
    rw [rowTo, getD_set]
    split
    · omega
    · exact rowTo_01 n ls k i
theorem fromTo_add {xs ys : List Int} {k : Int} (h : fromTo xs k) (h2 : fromTo ys 1) (j : Nat) : fromTo (addR xs ys j) (k + 1) := fun i => by
  rw [addR_getD]
  have := h i
  have := h2 i
  split <;> omega
theorem fromTo_mono {xs : List Int} {k m : Int} (h : fromTo xs k) (hm : k ≤ m) : fromTo xs m := fun i => by have := h i; omega

/-- The counts after the first k tests: of the failing ones, of the passing ones, how many fail. -/
def cnt (ps : List L) (ts : List T) : Nat → List Int × List Int × Nat
  | 0 => (List.replicate ps.length 0, List.replicate ps.length 0, 0)
  | k + 1 => match ts[k]? with
    | none => cnt ps ts k
    | some t => if pas ps t then ((cnt ps ts k).1, addR (cnt ps ts k).2.1 (rowL ps t.inn) ps.length, (cnt ps ts k).2.2) else (addR (cnt ps ts k).1 (rowL ps t.inn) ps.length, (cnt ps ts k).2.1, (cnt ps ts k).2.2 + 1)
theorem cnt_yes {ps : List L} {ts : List T} {k : Nat} {t : T} (ht : ts[k]? = some t) (h : pas ps t = true) : cnt ps ts (k + 1) = ((cnt ps ts k).1, addR (cnt ps ts k).2.1 (rowL ps t.inn) ps.length, (cnt ps ts k).2.2) := by rw [cnt]; simp only [ht, h, if_true]
theorem cnt_no {ps : List L} {ts : List T} {k : Nat} {t : T} (ht : ts[k]? = some t) (h : pas ps t = false) : cnt ps ts (k + 1) = (addR (cnt ps ts k).1 (rowL ps t.inn) ps.length, (cnt ps ts k).2.1, (cnt ps ts k).2.2 + 1) := by rw [cnt]; simp only [ht, h]; rfl
theorem cnt_ok (ps : List L) (ts : List T) : ∀ k, (cnt ps ts k).1.length = ps.length ∧ (cnt ps ts k).2.1.length = ps.length ∧ fromTo (cnt ps ts k).1 (k : Int) ∧ fromTo (cnt ps ts k).2.1 (k : Int) ∧ (cnt ps ts k).2.2 ≤ k
  | 0 => ⟨by simp [cnt], by simp [cnt], fromTo_zero _ (by omega), fromTo_zero _ (by omega), Nat.le_refl _⟩
  | k + 1 => by
    obtain ⟨a, b, c, d, e⟩ := cnt_ok ps ts k
    cases ht : ts[k]? with
    | none =>
      have : cnt ps ts (k + 1) = cnt ps ts k := by rw [cnt]; simp only [ht]
      rw [this]
      exact ⟨a, b, fromTo_mono c (by omega), fromTo_mono d (by omega), by omega⟩
    | some t =>
      have r : fromTo (rowL ps t.inn) 1 := rowTo_01 _ _ _
      cases hp : pas ps t
      · rw [cnt_no ht hp]
        refine ⟨by simp only [addR_length]; exact a, b, ?_, fromTo_mono d (by omega), by simp only; omega⟩
        have := fromTo_add c r ps.length
        exact fromTo_mono this (by omega)
      · rw [cnt_yes ht hp]
        refine ⟨a, by simp only [addR_length]; exact b, fromTo_mono c (by omega), ?_, by simp only; omega⟩
        have := fromTo_add d r ps.length
        exact fromTo_mono this (by omega)

/-- Two rows of counts. -/
structure ScI (A B : Nat) (f p : List Int) (w W : World) : Prop where
  ba : W.heap[A]? = some (.cells (iv f) 3 (0, 0))
  bb : W.heap[B]? = some (.cells (iv p) 3 (0, 0))
  ne : A ≠ B
  la : w.heap.size ≤ A
  lb : w.heap.size ≤ B
  below : Below w.heap.size w W
section
variable {A B : Nat} {f p : List Int} {w W W' : World}
theorem ScI.low (h : ScI A B f p w W) (hb : Below W.heap.size W W') : ScI A B f p w W' := ⟨hp_below h.ba hb (hp_lt h.ba), hp_below h.bb hb (hp_lt h.bb), h.ne, h.la, h.lb, h.below.trans (hb.mono h.below.size)⟩
theorem ScI.drew (h : ScI A B f p w W) : ScI A B f p w W.drew := ⟨hp_drew h.ba, hp_drew h.bb, h.ne, h.la, h.lb, h.below.drew⟩
theorem ScI.putA (h : ScI A B f p w W) (j : Nat) (y : Int) : ScI A B (f.set j y) p w (W.setCell ⟨A, j, none⟩ (.int .i64 y)) :=
  ⟨by rw [← iv_set]; exact hp_put h.ba _ _, hp_set h.bb (fun e => h.ne e.symm) _, h.ne, h.la, h.lb, h.below.setCell (p := ⟨A, _, none⟩) h.la _⟩
theorem ScI.putB (h : ScI A B f p w W) (j : Nat) (y : Int) : ScI A B f (p.set j y) w (W.setCell ⟨B, j, none⟩ (.int .i64 y)) :=
  ⟨hp_set h.ba h.ne _, by rw [← iv_set]; exact hp_put h.bb _ _, h.ne, h.la, h.lb, h.below.setCell (p := ⟨B, _, none⟩) h.lb _⟩
end

/-- The cells of fractions. -/
def qc : List (Int × Int) → List Value
  | [] => []
  | q :: r => .int .i64 q.1 :: .int .i64 q.2 :: qc r
theorem qc_length : ∀ (qs : List (Int × Int)), (qc qs).length = qs.length * 2
  | [] => rfl
  | q :: r => by simp [qc, qc_length r]; omega
theorem qc_get : ∀ {qs : List (Int × Int)} {i : Nat} {q : Int × Int}, qs[i]? = some q → (qc qs)[i * 2]? = some (.int .i64 q.1) ∧ (qc qs)[i * 2 + 1]? = some (.int .i64 q.2)
  | [], i, q, h => by simp at h
  | x :: r, 0, q, h => by simp at h; subst h; simp [qc]
  | x :: r, i + 1, q, h => by
    have ih := qc_get (qs := r) (i := i) (by simpa using h)
    rw [qc, show (i + 1) * 2 = i * 2 + 2 by omega]
    simpa using ih
theorem qc_set : ∀ {qs : List (Int × Int)} {i : Nat} (q : Int × Int), i < qs.length → qc (qs.set i q) = ((qc qs).set (i * 2) (.int .i64 q.1)).set (i * 2 + 1) (.int .i64 q.2)
  | [], i, q, h => by simp at h
  | x :: r, 0, q, h => rfl
  | x :: r, i + 1, q, h => by
    have ih := qc_set (qs := r) (i := i) q (by simpa using h)
    rw [List.set_cons_succ, qc, ih, show (i + 1) * 2 = i * 2 + 2 by omega]
    rfl
def qv (qs : List (Int × Int)) : Array Value := (qc qs).toArray
theorem qv_set {qs : List (Int × Int)} {i : Nat} (q : Int × Int) (h : i < qs.length) : ((qv qs).setIfInBounds (i * 2) (.int .i64 q.1)).setIfInBounds (i * 2 + 1) (.int .i64 q.2) = qv (qs.set i q) := by
  unfold qv
  rw [List.setIfInBounds_toArray, List.setIfInBounds_toArray, qc_set q h]
theorem qv_get {qs : List (Int × Int)} {i : Nat} {q : Int × Int} (h : qs[i]? = some q) : (qv qs)[i * 2]? = some (.int .i64 q.1) ∧ (qv qs)[i * 2 + 1]? = some (.int .i64 q.2) := by
  unfold qv
  simpa using qc_get h
theorem mkQ0 (w : World) : (Instr.makeSlice 44 (.int .i64 ((0 : Nat) : Int)) (.int .i64 ((0 : Nat) : Int))).run Try.prog w = .ok (.slice (some ⟨w.heap.size, 0, none⟩) 0 0) (w.alloc (.cells (qv (List.replicate 0 (0, 0))) 49)) := by kernel_rfl
theorem mkQ1 (w : World) : (Instr.makeSlice 44 (.int .i64 ((1 : Nat) : Int)) (.int .i64 ((1 : Nat) : Int))).run Try.prog w = .ok (.slice (some ⟨w.heap.size, 0, none⟩) 1 1) (w.alloc (.cells (qv (List.replicate 1 (0, 0))) 49)) := by kernel_rfl
theorem mkQ2 (w : World) : (Instr.makeSlice 44 (.int .i64 ((2 : Nat) : Int)) (.int .i64 ((2 : Nat) : Int))).run Try.prog w = .ok (.slice (some ⟨w.heap.size, 0, none⟩) 2 2) (w.alloc (.cells (qv (List.replicate 2 (0, 0))) 49)) := by kernel_rfl
theorem mkQ3 (w : World) : (Instr.makeSlice 44 (.int .i64 ((3 : Nat) : Int)) (.int .i64 ((3 : Nat) : Int))).run Try.prog w = .ok (.slice (some ⟨w.heap.size, 0, none⟩) 3 3) (w.alloc (.cells (qv (List.replicate 3 (0, 0))) 49)) := by kernel_rfl
theorem mkQ4 (w : World) : (Instr.makeSlice 44 (.int .i64 ((4 : Nat) : Int)) (.int .i64 ((4 : Nat) : Int))).run Try.prog w = .ok (.slice (some ⟨w.heap.size, 0, none⟩) 4 4) (w.alloc (.cells (qv (List.replicate 4 (0, 0))) 49)) := by kernel_rfl
theorem mkQ5 (w : World) : (Instr.makeSlice 44 (.int .i64 ((5 : Nat) : Int)) (.int .i64 ((5 : Nat) : Int))).run Try.prog w = .ok (.slice (some ⟨w.heap.size, 0, none⟩) 5 5) (w.alloc (.cells (qv (List.replicate 5 (0, 0))) 49)) := by kernel_rfl
theorem mkQ6 (w : World) : (Instr.makeSlice 44 (.int .i64 ((6 : Nat) : Int)) (.int .i64 ((6 : Nat) : Int))).run Try.prog w = .ok (.slice (some ⟨w.heap.size, 0, none⟩) 6 6) (w.alloc (.cells (qv (List.replicate 6 (0, 0))) 49)) := by kernel_rfl
theorem mkQ7 (w : World) : (Instr.makeSlice 44 (.int .i64 ((7 : Nat) : Int)) (.int .i64 ((7 : Nat) : Int))).run Try.prog w = .ok (.slice (some ⟨w.heap.size, 0, none⟩) 7 7) (w.alloc (.cells (qv (List.replicate 7 (0, 0))) 49)) := by kernel_rfl
theorem mkQ8 (w : World) : (Instr.makeSlice 44 (.int .i64 ((8 : Nat) : Int)) (.int .i64 ((8 : Nat) : Int))).run Try.prog w = .ok (.slice (some ⟨w.heap.size, 0, none⟩) 8 8) (w.alloc (.cells (qv (List.replicate 8 (0, 0))) 49)) := by kernel_rfl
theorem mkRats (n : Nat) (hn : n ≤ 8) (w : World) : (Instr.makeSlice 44 (.int .i64 (n : Int)) (.int .i64 (n : Int))).run Try.prog w = .ok (.slice (some ⟨w.heap.size, 0, none⟩) n n) (w.alloc (.cells (qv (List.replicate n (0, 0))) 49)) := by
  have c : n = 0 ∨ n = 1 ∨ n = 2 ∨ n = 3 ∨ n = 4 ∨ n = 5 ∨ n = 6 ∨ n = 7 ∨ n = 8 := by omega
  rcases c with rfl | rfl | rfl | rfl | rfl | rfl | rfl | rfl | rfl
  · exact mkQ0 w
  · exact mkQ1 w
  · exact mkQ2 w
  · exact mkQ3 w
  · exact mkQ4 w
  · exact mkQ5 w
  · exact mkQ6 w
  · exact mkQ7 w
  · exact mkQ8 w

/-- The score of a line. -/
def scN (ps : List L) (ts : List T) (i : Nat) : Nat := ((cnt ps ts ts.length).1.getD i 0).toNat
def scD (ps : List L) (ts : List T) (i : Nat) : Nat := max 1 ((cnt ps ts ts.length).2.2 + ((cnt ps ts ts.length).2.1.getD i 0).toNat)
def scQ (ps : List L) (ts : List T) (i : Nat) : Int × Int := (fracA (scN ps ts i) (scD ps ts i), fracB (scN ps ts i) (scD ps ts i))
def scTo (ps : List L) (ts : List T) : Nat → List (Int × Int)
  | 0 => List.replicate ps.length (0, 0)
  | k + 1 => (scTo ps ts k).set k (scQ ps ts k)
theorem scTo_length (ps : List L) (ts : List T) : ∀ k, (scTo ps ts k).length = ps.length
  | 0 => by simp [scTo]
  | k + 1 => by rw [scTo, List.length_set]; exact scTo_length ps ts k
def scL (ps : List L) (ts : List T) : List (Int × Int) := scTo ps ts ps.length

/-- The counts, and the scores so far. -/
structure ScJ (A B Q : Nat) (f p : List Int) (qs : List (Int × Int)) (w W : World) : Prop where
  ab : ScI A B f p w W
  q : W.heap[Q]? = some (.cells (qv qs) 49 (0, 0))
  lq : w.heap.size ≤ Q
  na : A ≠ Q
  nb : B ≠ Q
theorem ScJ.low {A B Q : Nat} {f p : List Int} {qs : List (Int × Int)} {w W W' : World} (h : ScJ A B Q f p qs w W) (hb : Below W.heap.size W W') : ScJ A B Q f p qs w W' := ⟨h.ab.low hb, hp_below h.q hb (hp_lt h.q), h.lq, h.na, h.nb⟩
theorem ScJ.drew {A B Q : Nat} {f p : List Int} {qs : List (Int × Int)} {w W : World} (h : ScJ A B Q f p qs w W) : ScJ A B Q f p qs w W.drew := ⟨h.ab.drew, hp_drew h.q, h.lq, h.na, h.nb⟩
theorem ScJ.put {A B Q : Nat} {f p : List Int} {qs : List (Int × Int)} {w W : World} (h : ScJ A B Q f p qs w W) (i : Nat) (hi : i < qs.length) (q : Int × Int) : ScJ A B Q f p (qs.set i q) w ((W.setCell ⟨Q, i * 2, none⟩ (.int .i64 q.1)).setCell ⟨Q, i * 2 + 1, none⟩ (.int .i64 q.2)) :=
  ⟨⟨hp_set (hp_set h.ab.ba h.na _) h.na _, hp_set (hp_set h.ab.bb h.nb _) h.nb _, h.ab.ne, h.ab.la, h.ab.lb, (h.ab.below.setCell (p := ⟨Q, _, none⟩) h.lq _).setCell (p := ⟨Q, _, none⟩) h.lq _⟩,
    by rw [← qv_set q hi]; exact hp_put (hp_put h.q _ _) _ _, h.lq, h.na, h.nb⟩

theorem ScJ.cellA {A B Q : Nat} {f p : List Int} {qs : List (Int × Int)} {w W : World} (h : ScJ A B Q f p qs w W) {k : Nat} {u : Int} (hu : f.getD k 0 = u) (hk : k < f.length) : W.cell? ⟨A, k, none⟩ = some (.int .i64 u) := by
  have := hp_cell h.ab.ba (iv_getN f k hk)
  rwa [hu] at this
theorem ScJ.cellB {A B Q : Nat} {f p : List Int} {qs : List (Int × Int)} {w W : World} (h : ScJ A B Q f p qs w W) {k : Nat} {u : Int} (hu : p.getD k 0 = u) (hk : k < p.length) : W.cell? ⟨B, k, none⟩ = some (.int .i64 u) := by
  have := hp_cell h.ab.bb (iv_getN p k hk)
  rwa [hu] at this
theorem info_rat : (Try.prog.info? 49).map (·.size) = some 2 := by kernel_rfl
theorem ScJ.there {A B Q : Nat} {f p : List Int} {qs : List (Int × Int)} {w W : World} (h : ScJ A B Q f p qs w W) {i : Nat} (hi : i < qs.length) : W.there Q (i * 2) 2 := fun j hj => by
  obtain ⟨q, hq⟩ := get_of_lt hi
  obtain ⟨g0, g1⟩ := qv_get hq
  have hc : j = 0 ∨ j = 1 := by omega
  rcases hc with rfl | rfl
  · exact ⟨by rw [Nat.add_zero, hp_cell h.q g0]; rfl, hp_free h.q _⟩
  · exact ⟨by rw [hp_cell h.q g1]; rfl, hp_free h.q _⟩

theorem scI_ab (w : World) (n : Nat) : ScI w.heap.size (w.heap.size + 1) (List.replicate n 0) (List.replicate n 0) w (((w.alloc (.cells (iv (List.replicate n 0)) 3)).alloc (.cells (iv (List.replicate n 0)) 3)).drew) :=
  ⟨hp_alloc (hp_new rfl), hp_new (by simp), by omega, Nat.le_refl _, by omega, (((Below.refl _ _).alloc (Nat.le_refl _) _).alloc (by simp) _).drew⟩
theorem scI_ba (w : World) (n : Nat) : ScI (w.heap.size + 1) w.heap.size (List.replicate n 0) (List.replicate n 0) w (((w.alloc (.cells (iv (List.replicate n 0)) 3)).alloc (.cells (iv (List.replicate n 0)) 3)).drew) :=
  ⟨hp_new (by simp), hp_alloc (hp_new rfl), by omega, by omega, Nat.le_refl _, (((Below.refl _ _).alloc (Nat.le_refl _) _).alloc (by simp) _).drew⟩

set_option maxRecDepth 100000 in
set_option maxHeartbeats 4000000 in
theorem scores_A (a g : Option Addr) (ca cap : Nat) (ps : List L) (ts : List T) (w : World) (hp : LinesAt w a ps) (hts : TestsAt w g ts) (hv : vp ps = 0) (ht : vts ts = 0) :
    Calls Try.prog 75 #[.slice a ps.length ca, .slice g ts.length cap] w fun e w' => ∃ Q, e = .returned (.slice (some ⟨Q, 0, none⟩) ps.length ps.length) ∧ w'.heap[Q]? = some (.cells (qv (scL ps ts)) 49 (0, 0)) ∧ Below w.heap.size w w' := by
  have h8 := (vp_ok hv).1
  obtain ⟨t8, hT⟩ := vts_ok ht
  have hmk := mkInts ps.length h8
  have HMQ := Lib.hid (mkRats ps.length h8)
  have FOK := Lib.hid (cnt_ok ps ts)
  go_enter Try.func75, Try.ntmps75
  go_wp2_with fail
  go_upto_region 2 with fail
  go_cut [6, 7] (fun s6 s7 wx => ∃ A B : Nat, s6 = .slice (some ⟨A, 0, none⟩) ps.length ps.length ∧ s7 = .slice (some ⟨B, 0, none⟩) ps.length ps.length ∧ ScI A B (cnt ps ts 0).1 (cnt ps ts 0).2.1 w wx)
  case first =>
    go_region
    all_goals go_wp2_with fail
    all_goals go_meet
    · exact ⟨_, _, rfl, rfl, scI_ab _ _⟩
    · exact ⟨_, _, rfl, rfl, scI_ba _ _⟩
  case rest =>
    obtain ⟨A, B, rfl, rfl, hI⟩ := hcut
    have HI := Lib.hid hI
    have HT := Lib.hid hT
    have HV := Lib.hid hv
    have H8 := Lib.hid h8
    clear hI hmk hT hv ht
    go_wp2_with fail
    go_loopw [5, 23] (fun s5 s23 wr => ∃ k : Nat, k ≤ ts.length ∧ s23 = .int .i64 k ∧ s5 = .int .i64 ((cnt ps ts k).2.2 : Nat) ∧ ScI A B (cnt ps ts k).1 (cnt ps ts k).2.1 w wr) (fun _ s23 _ => ts.length - (intOf s23).toNat)
    case atStart => exact ⟨0, Nat.zero_le _, rfl, rfl, HI.out⟩
    case round =>
      obtain ⟨k, hk, rfl, rfl, hI⟩ := hrel
      have HI := Lib.hid hI
      clear hI
      by_cases hlt : k < ts.length
      · obtain ⟨gb, go_, t, sa, sc, rfl, hlb, htk, c0, c1, c2, hi⟩ := (hts.below HI.out.below (Nat.le_refl _)).at_ hlt
        have HTk := Lib.hid htk
        have hit := HT.out t (mem_of_get htk)
        have hz : vr ps t.inn = 0 := by unfold vr fe; rw [if_pos HV.out]; exact (isT_ok hit).1
        have HP := Lib.hid (fun w hp hs => passes_any a sa ca sc ps t w hp hs HV.out hit)
        have HRW := Lib.hid (fun w hp hs => row_any a sa ca sc ps t.inn t.out t.want w hp hs hz)
        have hnew := boxT_new (a := sa) (n := t.inn.length) (ca := sc) (out := t.out) (want := t.want) wr
        have HBT := Lib.hid (show BoxT wr.heap.size sa t.inn.length sc t.out t.want wr _ from hnew)
        have HX := Lib.hid (HI.out.low hnew.below)
        have HS := Lib.hid (hi.below hnew.below (Nat.le_refl _))
        have x0 := hnew.c0
        have x1 := hnew.c1
        have x2 := hnew.c2
        have f8 := (FOK.out k).2.2.2.2
        clear htk hit hz hi hnew
        cases hps : pas ps t
        · have HN := Lib.hid (cnt_no HTk.out hps)
          rw [hps] at HP
          clear hps
          go_wp2_with fail
          refine (HP.out _ (hp.below HX.out.below (Nat.le_refl _)) HS.out).mono ?_
          rintro e w1 ⟨rfl, hB1⟩
          have HX1 := Lib.hid (HX.out.low hB1)
          have HS1 := Lib.hid (HS.out.below hB1 (Nat.le_refl _))
          have HBT1 := Lib.hid (HBT.out.low hB1)
          clear HX HS HBT hB1 x0 x1 x2
          have x0 := HBT1.out.c0
          have x1 := HBT1.out.c1
          have x2 := HBT1.out.c2
          go_wp2_with fail
          refine (HRW.out _ (hp.below HX1.out.below (Nat.le_refl _)) HS1.out).mono ?_
          rintro e w2 ⟨M, rfl, hM, hR⟩
          have HM := Lib.hid (show M ≠ A ∧ M ≠ B by
            have := hp_lt HX1.out.ba
            have := hp_lt HX1.out.bb
            omega)
          have HX2 := Lib.hid (HX1.out.low hR.below)
          have HR := Lib.hid hR.bm
          clear HX1 HS1 HBT1 hR hM x0 x1 x2
          have FC := Lib.hid (FOK.out k)
          have HRL := Lib.hid (rowL_length ps t.inn)
          have H01 := Lib.hid (show fromTo (rowL ps t.inn) 1 from rowTo_01 _ _ _)
          generalize rowL ps t.inn = R at HR HN HRL H01
          go_wp2_with fail
          go_loopw [39] (fun s39 wr => ∃ j : Nat, j ≤ ps.length ∧ s39 = .int .i64 j ∧ wr.heap[M]? = some (.cells (iv R) 3 (0, 0)) ∧ ScI A B (addR (cnt ps ts k).1 R j) (cnt ps ts k).2.1 w wr) (fun s39 _ => ps.length - (intOf s39).toNat)
          case atStart => exact ⟨0, Nat.zero_le _, rfl, HR.out, HX2.out⟩
          case round =>
            obtain ⟨j, hj, rfl, hr, hx⟩ := hrel
            have HR := Lib.hid hr
            have HX := Lib.hid hx
            clear hr hx HX2
            by_cases hlt2 : j < ps.length
            · have z1 := hp_cell HR.out (iv_getN R j (by rw [HRL.out]; exact hlt2))
              have z2 := hp_cell HX.out.ba (iv_getN (addR (cnt ps ts k).1 R j) j (by rw [addR_length]; have := FC.out; omega))
              have z3 := hp_free HX.out.ba j
              have b1 := H01.out j
              have b2 := fromTo_add FC.out.2.2.1 H01.out j j
              obtain ⟨b1a, b1b⟩ := b1
              obtain ⟨b2a, b2b⟩ := b2
              have HAD := Lib.hid (show addR (cnt ps ts k).1 R (j + 1) = (addR (cnt ps ts k).1 R j).set j ((addR (cnt ps ts k).1 R j).getD j 0 + R.getD j 0) from rfl)
              generalize (addR (cnt ps ts k).1 R j).getD j 0 = u at z2 b2a b2b HAD
              generalize R.getD j 0 = v at z1 b1a b1b HAD
              have hk8 : k ≤ 8 := by omega
              go_wp2_with fail
              go_roundw
              case rel => exact ⟨j + 1, by omega, by go_num, hp_set HR.out HM.out.1 _, by rw [HAD.out]; exact HX.out.putA _ _⟩
              case measure => simp [intOf]; omega
            · have hjj : j = ps.length := by omega
              subst hjj
              have HX2 := Lib.hid (show ScI A B (cnt ps ts (k + 1)).1 (cnt ps ts (k + 1)).2.1 w _ from by rw [HN.out]; exact HX.out)
              have HF2 := Lib.hid (show (cnt ps ts (k + 1)).2.2 = (cnt ps ts k).2.2 + 1 by rw [HN.out])
              have hf8 := FC.out.2.2.2.2
              go_wp2_with fail
              go_roundw
              case rel => exact ⟨k + 1, by omega, by go_num, by rw [HF2.out]; go_num, HX2.out⟩
              case measure => simp [intOf]; omega
        · have HN := Lib.hid (cnt_yes HTk.out hps)
          rw [hps] at HP
          clear hps
          go_wp2_with fail
          refine (HP.out _ (hp.below HX.out.below (Nat.le_refl _)) HS.out).mono ?_
          rintro e w1 ⟨rfl, hB1⟩
          have HX1 := Lib.hid (HX.out.low hB1)
          have HS1 := Lib.hid (HS.out.below hB1 (Nat.le_refl _))
          have HBT1 := Lib.hid (HBT.out.low hB1)
          clear HX HS HBT hB1 x0 x1 x2
          have x0 := HBT1.out.c0
          have x1 := HBT1.out.c1
          have x2 := HBT1.out.c2
          go_wp2_with fail
          refine (HRW.out _ (hp.below HX1.out.below (Nat.le_refl _)) HS1.out).mono ?_
          rintro e w2 ⟨M, rfl, hM, hR⟩
          have HM := Lib.hid (show M ≠ A ∧ M ≠ B by
            have := hp_lt HX1.out.ba
            have := hp_lt HX1.out.bb
            omega)
          have HX2 := Lib.hid (HX1.out.low hR.below)
          have HR := Lib.hid hR.bm
          clear HX1 HS1 HBT1 hR hM x0 x1 x2
          have FC := Lib.hid (FOK.out k)
          have HRL := Lib.hid (rowL_length ps t.inn)
          have H01 := Lib.hid (show fromTo (rowL ps t.inn) 1 from rowTo_01 _ _ _)
          generalize rowL ps t.inn = R at HR HN HRL H01
          go_wp2_with fail
          go_loopw [39] (fun s39 wr => ∃ j : Nat, j ≤ ps.length ∧ s39 = .int .i64 j ∧ wr.heap[M]? = some (.cells (iv R) 3 (0, 0)) ∧ ScI A B (cnt ps ts k).1 (addR (cnt ps ts k).2.1 R j) w wr) (fun s39 _ => ps.length - (intOf s39).toNat)
          case atStart => exact ⟨0, Nat.zero_le _, rfl, HR.out, HX2.out⟩
          case round =>
            obtain ⟨j, hj, rfl, hr, hx⟩ := hrel
            have HR := Lib.hid hr
            have HX := Lib.hid hx
            clear hr hx HX2
            by_cases hlt2 : j < ps.length
            · have z1 := hp_cell HR.out (iv_getN R j (by rw [HRL.out]; exact hlt2))
              have z2 := hp_cell HX.out.bb (iv_getN (addR (cnt ps ts k).2.1 R j) j (by rw [addR_length]; have := FC.out; omega))
              have z3 := hp_free HX.out.bb j
              have b1 := H01.out j
              have b2 := fromTo_add FC.out.2.2.2.1 H01.out j j
              obtain ⟨b1a, b1b⟩ := b1
              obtain ⟨b2a, b2b⟩ := b2
              have HAD := Lib.hid (show addR (cnt ps ts k).2.1 R (j + 1) = (addR (cnt ps ts k).2.1 R j).set j ((addR (cnt ps ts k).2.1 R j).getD j 0 + R.getD j 0) from rfl)
              generalize (addR (cnt ps ts k).2.1 R j).getD j 0 = u at z2 b2a b2b HAD
              generalize R.getD j 0 = v at z1 b1a b1b HAD
              have hk8 : k ≤ 8 := by omega
              go_wp2_with fail
              go_roundw
              case rel => exact ⟨j + 1, by omega, by go_num, hp_set HR.out HM.out.2 _, by rw [HAD.out]; exact HX.out.putB _ _⟩
              case measure => simp [intOf]; omega
            · have hjj : j = ps.length := by omega
              subst hjj
              have HX2 := Lib.hid (show ScI A B (cnt ps ts (k + 1)).1 (cnt ps ts (k + 1)).2.1 w _ from by rw [HN.out]; exact HX.out)
              have HF2 := Lib.hid (show (cnt ps ts (k + 1)).2.2 = (cnt ps ts k).2.2 by rw [HN.out])
              have hf8 := FC.out.2.2.2.2
              go_wp2_with fail
              go_roundw
              case rel => exact ⟨k + 1, by omega, by go_num, by rw [HF2.out], HX2.out⟩
              case measure => simp [intOf]; omega
      · have hkk : k = ts.length := by omega
        subst hkk
        clear hlt hk
        have hmq := HMQ.out
        go_wp2_with fail
        have HJ0 := Lib.hid (show ScJ A B wr.heap.size _ _ (scTo ps ts 0) w _ from ⟨HI.out.low ((Below.refl _ _).alloc (Nat.le_refl _) (.cells (qv (List.replicate ps.length (0, 0))) 49)), hp_new rfl, HI.out.below.size, by have := hp_lt HI.out.ba; omega, by have := hp_lt HI.out.bb; omega⟩)
        clear hmq
        generalize wr.heap.size = Q at HJ0 ⊢
        have FC := Lib.hid (FOK.out ts.length)
        go_loopw [58] (fun s58 wr2 => ∃ k : Nat, k ≤ ps.length ∧ s58 = .int .i64 k ∧ ScJ A B Q (cnt ps ts ts.length).1 (cnt ps ts ts.length).2.1 (scTo ps ts k) w wr2) (fun s58 _ => ps.length - (intOf s58).toNat)
        case atStart => exact ⟨0, Nat.zero_le _, rfl, HJ0.out⟩
        case round =>
          clear HJ0
          obtain ⟨k, hk, rfl, hJ⟩ := hrel
          have HJ := Lib.hid hJ
          clear hJ
          by_cases hlt : k < ps.length
          · have z1 := hp_cell HJ.out.ab.ba (iv_getN (cnt ps ts ts.length).1 k (by have := FC.out; omega))
            have z2 := hp_cell HJ.out.ab.bb (iv_getN (cnt ps ts ts.length).2.1 k (by have := FC.out; omega))
            have b1 := FC.out.2.2.1 k
            have b2 := FC.out.2.2.2.1 k
            have b3 := FC.out.2.2.2.2
            have HQ := Lib.hid (show scTo ps ts (k + 1) = (scTo ps ts k).set k (scQ ps ts k) from rfl)
            have HSN := Lib.hid (show scN ps ts k = ((cnt ps ts ts.length).1.getD k 0).toNat from rfl)
            have HSD := Lib.hid (show scD ps ts k = max 1 ((cnt ps ts ts.length).2.2 + ((cnt ps ts ts.length).2.1.getD k 0).toNat) from rfl)
            have HSQ := Lib.hid (show scQ ps ts k = (fracA (scN ps ts k) (scD ps ts k), fracB (scN ps ts k) (scD ps ts k)) from rfl)
            generalize hu : (cnt ps ts ts.length).1.getD k 0 = u at z1 b1 HSN
            generalize hv2 : (cnt ps ts ts.length).2.1.getD k 0 = v at z2 b2 HSD
            have hfl : k < (cnt ps ts ts.length).1.length := by have := FC.out; omega
            have hpl : k < (cnt ps ts ts.length).2.1.length := by have := FC.out; omega
            have HOne := Lib.hid (show (#[.int .i64 (fracA (scN ps ts k) (scD ps ts k)), .int .i64 (fracB (scN ps ts k) (scD ps ts k))] : Array Value).all (·.oneCell') = true by simp [Value.oneCell'])
            generalize (cnt ps ts ts.length).2.2 = m at b3 HSD ⊢
            obtain ⟨b1a, b1b⟩ := b1
            obtain ⟨b2a, b2b⟩ := b2
            have HFR := Lib.hid (fun w => fraction_any (scN ps ts k) (scD ps ts k) w (by rw [HSN.out]; omega) (by rw [HSD.out]; omega) (by rw [HSD.out]; omega))
            rw [show ((scN ps ts k : Nat) : Int) = u by rw [HSN.out]; omega] at HFR
            have HDD := Lib.hid (show ((scD ps ts k : Nat) : Int) = max 1 ((m : Int) + v) by rw [HSD.out]; omega)
            go_wp2_with fail
            refine wp_region_held_drew (S := fun W => ∃ qs', ScJ A B Q (cnt ps ts ts.length).1 (cnt ps ts ts.length).2.1 qs' w W) (by kernel_rfl) ?_ (fun hHeld => ?_)
            · exact ⟨_, HJ.out.drew⟩
            have HQ2 := Lib.hid HJ.out.drew
            refine wpAnyH_take (i := 0) (oi := ?oi00_1) (v := ?v00_1) ?hi00_1 (by kernel_rfl) (by kernel_rfl) (by kernel_rfl) ?hq00_1 ?hy00_1 hHeld ?rest00_1
            case hi00_1 => exact rfl
            case hq00_1 => exact fun _ _ _ h => h
            case hy00_1 =>
              refine Or.inl ⟨by rfl, ?_⟩
              intro w hSw
              go_simp
              (try with_reducible rfl)
            try simp only [Act.put, List.getElem_toArray, List.getElem_cons_succ, List.getElem_cons_zero, List.setIfInBounds_toArray, List.set_cons_zero, List.set_cons_succ]
            refine wpAnyH_take (i := 1) (oi := ?oi01_2) (v := ?v01_2) ?hi01_2 (by kernel_rfl) (by kernel_rfl) (by kernel_rfl) ?hq01_2 ?hy01_2 hHeld ?rest01_2
            case hi01_2 => exact rfl
            case hq01_2 => exact fun _ _ _ h => h
            case hy01_2 =>
              refine Or.inl ⟨by rfl, ?_⟩
              intro w hSw
              go_simp
              (try with_reducible rfl)
            try simp only [Act.put, List.getElem_toArray, List.getElem_cons_succ, List.getElem_cons_zero, List.setIfInBounds_toArray, List.set_cons_zero, List.set_cons_succ]
            refine wpAnyH_take (i := 2) (oi := ?oi02_3) (v := ?v02_3) ?hi02_3 (by kernel_rfl) (by kernel_rfl) (by kernel_rfl) ?hq02_3 ?hy02_3 hHeld ?rest02_3
            case hi02_3 => exact rfl
            case hq02_3 => exact fun _ _ _ h => h
            case hy02_3 =>
              refine Or.inl ⟨by rfl, ?_⟩
              intro w hSw
              go_simp
              (try with_reducible rfl)
            try simp only [Act.put, List.getElem_toArray, List.getElem_cons_succ, List.getElem_cons_zero, List.setIfInBounds_toArray, List.set_cons_zero, List.set_cons_succ]
            refine wpAnyH_take (i := 3) (oi := ?oi03_4) (v := ?v03_4) ?hi03_4 (by kernel_rfl) (by kernel_rfl) (by kernel_rfl) ?hq03_4 ?hy03_4 hHeld ?rest03_4
            case hi03_4 => exact rfl
            case hq03_4 => exact fun _ _ _ h => h
            case hy03_4 =>
              refine Or.inl ⟨by rfl, ?_⟩
              intro w hSw
              go_simp
              (try with_reducible rfl)
            try simp only [Act.put, List.getElem_toArray, List.getElem_cons_succ, List.getElem_cons_zero, List.setIfInBounds_toArray, List.set_cons_zero, List.set_cons_succ]
            refine wpAnyH_take (i := 4) (oi := ?oi04_5) (v := ?v04_5) ?hi04_5 (by kernel_rfl) (by kernel_rfl) (by kernel_rfl) ?hq04_5 ?hy04_5 hHeld ?rest04_5
            case hi04_5 => exact rfl
            case hq04_5 => exact fun _ _ _ h => h
            case hy04_5 =>
              refine Or.inl ⟨by rfl, ?_⟩
              intro w hSw
              go_simp
              (try with_reducible rfl)
            try simp only [Act.put, List.getElem_toArray, List.getElem_cons_succ, List.getElem_cons_zero, List.setIfInBounds_toArray, List.set_cons_zero, List.set_cons_succ]
            refine wpAnyH_take (i := 5) (oi := ?oi05_6) (v := ?v05_6) ?hi05_6 (by kernel_rfl) (by kernel_rfl) (by kernel_rfl) ?hq05_6 ?hy05_6 hHeld ?rest05_6
            case hi05_6 => exact rfl
            case hq05_6 => exact fun _ _ _ h => h
            case hy05_6 =>
              refine Or.inl ⟨by rfl, ?_⟩
              intro w hSw
              obtain ⟨qs', hSw⟩ := hSw
              have y1 := hSw.cellA hu hfl
              have y2 := hSw.cellB hv2 hpl
              go_simp
              (try with_reducible rfl)
            try simp only [Act.put, List.getElem_toArray, List.getElem_cons_succ, List.getElem_cons_zero, List.setIfInBounds_toArray, List.set_cons_zero, List.set_cons_succ]
            refine wpAnyH_take (i := 6) (oi := ?oi06_7) (v := ?v06_7) ?hi06_7 (by kernel_rfl) (by kernel_rfl) (by kernel_rfl) ?hq06_7 ?hy06_7 hHeld ?rest06_7
            case hi06_7 => exact rfl
            case hq06_7 => exact fun _ _ _ h => h
            case hy06_7 =>
              refine Or.inl ⟨by rfl, ?_⟩
              intro w hSw
              go_simp
              (try with_reducible rfl)
            try simp only [Act.put, List.getElem_toArray, List.getElem_cons_succ, List.getElem_cons_zero, List.setIfInBounds_toArray, List.set_cons_zero, List.set_cons_succ]
            refine wpAnyH_take (i := 7) (oi := ?oi07_8) (v := ?v07_8) ?hi07_8 (by kernel_rfl) (by kernel_rfl) (by kernel_rfl) ?hq07_8 ?hy07_8 hHeld ?rest07_8
            case hi07_8 => exact rfl
            case hq07_8 => exact fun _ _ _ h => h
            case hy07_8 =>
              refine Or.inl ⟨by rfl, ?_⟩
              intro w hSw
              go_simp
              (try with_reducible rfl)
            try simp only [Act.put, List.getElem_toArray, List.getElem_cons_succ, List.getElem_cons_zero, List.setIfInBounds_toArray, List.set_cons_zero, List.set_cons_succ]
            refine wpAnyH_take (i := 8) (oi := ?oi08_9) (v := ?v08_9) ?hi08_9 (by kernel_rfl) (by kernel_rfl) (by kernel_rfl) ?hq08_9 ?hy08_9 hHeld ?rest08_9
            case hi08_9 => exact rfl
            case hq08_9 => exact fun _ _ _ h => h
            case hy08_9 =>
              refine Or.inl ⟨by rfl, ?_⟩
              intro w hSw
              go_simp
              (try with_reducible rfl)
            try simp only [Act.put, List.getElem_toArray, List.getElem_cons_succ, List.getElem_cons_zero, List.setIfInBounds_toArray, List.set_cons_zero, List.set_cons_succ]
            refine wpAnyH_take (i := 9) (oi := ?oi09_10) (v := ?v09_10) ?hi09_10 (by kernel_rfl) (by kernel_rfl) (by kernel_rfl) ?hq09_10 ?hy09_10 hHeld ?rest09_10
            case hi09_10 => exact rfl
            case hq09_10 => exact fun _ _ _ h => h
            case hy09_10 =>
              refine Or.inl ⟨by rfl, ?_⟩
              intro w hSw
              go_simp
              (try with_reducible rfl)
            try simp only [Act.put, List.getElem_toArray, List.getElem_cons_succ, List.getElem_cons_zero, List.setIfInBounds_toArray, List.set_cons_zero, List.set_cons_succ]
            refine wpAnyH_take (i := 10) (oi := ?oi10_11) (v := ?v10_11) ?hi10_11 (by kernel_rfl) (by kernel_rfl) (by kernel_rfl) ?hq10_11 ?hy10_11 hHeld ?rest10_11
            case hi10_11 => exact rfl
            case hq10_11 => exact fun _ _ _ h => h
            case hy10_11 =>
              refine Or.inl ⟨by rfl, ?_⟩
              intro w hSw
              obtain ⟨qs', hSw⟩ := hSw
              have y1 := hSw.cellA hu hfl
              have y2 := hSw.cellB hv2 hpl
              go_simp
              (try with_reducible rfl)
            try simp only [Act.put, List.getElem_toArray, List.getElem_cons_succ, List.getElem_cons_zero, List.setIfInBounds_toArray, List.set_cons_zero, List.set_cons_succ]
            refine wpAnyH_take (i := 11) (oi := ?oi11_12) (v := ?v11_12) ?hi11_12 (by kernel_rfl) (by kernel_rfl) (by kernel_rfl) ?hq11_12 ?hy11_12 hHeld ?rest11_12
            case hi11_12 => exact rfl
            case hq11_12 => exact fun _ _ _ h => h
            case hy11_12 =>
              refine Or.inl ⟨by rfl, ?_⟩
              intro w hSw
              go_simp
              (try with_reducible rfl)
            try simp only [Act.put, List.getElem_toArray, List.getElem_cons_succ, List.getElem_cons_zero, List.setIfInBounds_toArray, List.set_cons_zero, List.set_cons_succ]
            refine wpAnyH_take (i := 12) (oi := ?oi12_13) (v := .int .i64 ((scD ps ts k : Nat) : Int)) ?hi12_13 (by kernel_rfl) (by kernel_rfl) (by kernel_rfl) ?hq12_13 ?hy12_13 hHeld ?rest12_13
            case hi12_13 => exact rfl
            case hq12_13 => exact fun _ _ _ h => h
            case hy12_13 =>
              refine Or.inl ⟨by rfl, ?_⟩
              intro w hSw
              go_simp
              have e : IntKind.i64.wrap ((m : Int) + v) = (m : Int) + v := by rw [IntKind.wrap_i64]; omega
              rw [e, HDD.out]
              split <;> omega
            try simp only [Act.put, List.getElem_toArray, List.getElem_cons_succ, List.getElem_cons_zero, List.setIfInBounds_toArray, List.set_cons_zero, List.set_cons_succ]
            refine wpAnyH_ready (rs := [13]) (by kernel_rfl) (by simp) ?_
            refine AllReadyH.cons (o := ?or13) ?hr13 ?kr13 AllReadyH.nil
            case hr13 => exact rfl
            case kr13 =>
              intro K hK
              go_simp
              refine (HFR.out _).mono ?_
              rintro e wa ⟨rfl, hBa⟩
              have HQ3 := Lib.hid (HQ2.out.low hBa)
              refine hK.out _ _ ⟨_, HQ3.out⟩ (fun hHeld => ?_)
              clear hK K HQ2 hBa
              try simp only [Act.put, List.getElem_toArray, List.getElem_cons_succ, List.getElem_cons_zero, List.setIfInBounds_toArray, List.set_cons_zero, List.set_cons_succ]
              refine wpAnyH_take (i := 14) (oi := ?oi14_14) (v := ?v14_14) ?hi14_14 (by kernel_rfl) (by kernel_rfl) (by kernel_rfl) ?hq14_14 ?hy14_14 hHeld ?rest14_14
              case hi14_14 => exact rfl
              case hq14_14 => exact fun _ _ _ h => h
              case hy14_14 =>
                refine Or.inl ⟨by rfl, ?_⟩
                intro w hSw
                go_simp
                (try with_reducible rfl)
              try simp only [Act.put, List.getElem_toArray, List.getElem_cons_succ, List.getElem_cons_zero, List.setIfInBounds_toArray, List.set_cons_zero, List.set_cons_succ]
              refine wpAnyH_ready (rs := [15]) (by kernel_rfl) (by simp) ?_
              refine AllReadyH.cons (o := ?or15) ?hr15 ?kr15 AllReadyH.nil
              case hr15 => exact rfl
              intro K hK
              rw [if_pos (by rfl)]
              refine wp_store_mid 49 (.tmp 75) (.tmp 74) rfl Q (k * 2) #[.int .i64 (fracA (scN ps ts k) (scD ps ts k)), .int .i64 (fracB (scN ps ts k) (scD ps ts k))] rfl rfl (HQ3.out.there (by rw [scTo_length]; exact hlt)) info_rat HOne.out ?_
              have hE := HQ3.out.put k (by rw [scTo_length]; exact hlt) (scQ ps ts k)
              rw [← HQ.out, HSQ.out] at hE
              have HE := Lib.hid hE
              refine hK.out _ _ ⟨_, HE.out⟩ (fun hHeld2 => ?_)
              clear hK K hE hHeld hHeld2
              try simp only [Act.put, List.getElem_toArray, List.getElem_cons_succ, List.getElem_cons_zero, List.setIfInBounds_toArray, List.set_cons_zero, List.set_cons_succ]
              refine wpAnyH_done (by kernel_rfl) ?_ _
              go_wp2_with fail
              go_roundw
              case rel => exact ⟨k + 1, by omega, by go_num, HE.out⟩
              case measure => simp [intOf]; omega
          · have hkk : k = ps.length := by omega
            subst hkk
            go_wp2_with fail
            go_ret
            exact ⟨Q, rfl, HJ.out.q, HJ.out.ab.below⟩

end Go.Proofs.Ytndmjenfgggfbaa

/- Scores; equal fractions; the law's own known. -/
set_option linter.unusedVariables false
set_option linter.unusedSimpArgs false
namespace Go.Proofs.Ytndmjenfgggfbaa
open Go.RowKit Tinker

set_option maxRecDepth 100000 in
set_option maxHeartbeats 1000000 in
theorem scores_ok (a g : Option Addr) (ca cap : Nat) (ps : List L) (ts : List T) (w : World) (hp : LinesAt w a ps) (hts : TestsAt w g ts) (hz : vpt ps ts = 0) :
    Calls Try.prog 35 #[.slice a ps.length ca, .slice g ts.length cap] w fun e w' => ∃ Q, e = .returned (.tuple #[.slice (some ⟨Q, 0, none⟩) ps.length ps.length, .int .i64 0]) ∧ w'.heap[Q]? = some (.cells (qv (scL ps ts)) 49 (0, 0)) ∧ Below w.heap.size w w' := by
  obtain ⟨h1, h2⟩ := vpt_ok hz
  obtain ⟨t8, hT⟩ := vts_ok h2
  have HV := Lib.hid (fun w hp hts => validateTestsP_any a g ca cap ps ts w hp hts (by omega) (fun t ht => by have := (vs_ok (isT_ok (hT t ht)).1).1; omega))
  have HS := Lib.hid (fun w hp hts => scores_A a g ca cap ps ts w hp hts h1 h2)
  rw [hz] at HV
  clear hz h1 h2 t8 hT
  go_enter Try.func35, Try.ntmps35
  go_wp2_with fail
  refine (HV.out _ hp hts).mono ?_
  rintro e w1 ⟨rfl, hB⟩
  go_wp2_with fail
  refine (HS.out _ (hp.below hB (Nat.le_refl _)) (hts.below hB (Nat.le_refl _))).mono ?_
  rintro e w2 ⟨Q, rfl, hq, hB2⟩
  go_wp2_with fail
  go_ret2
  exact ⟨Q, rfl, hq, hB.trans (hB2.mono hB.size)⟩

set_option maxRecDepth 100000 in
set_option maxHeartbeats 1000000 in
theorem sameRats_self (n Q1 Q2 ca cb : Nat) (qs : List (Int × Int)) (w : World) (hn : qs.length = n) (h1 : w.heap[Q1]? = some (.cells (qv qs) 49 (0, 0))) (h2 : w.heap[Q2]? = some (.cells (qv qs) 49 (0, 0))) (hm : n ≤ 1000) :
    Calls Try.prog 37 #[.slice (some ⟨Q1, 0, none⟩) n ca, .slice (some ⟨Q2, 0, none⟩) n cb] w fun e w' => e = .returned (.bool true) ∧ Below w.heap.size w w' := by
  have hnn : ((n : Int) != (n : Int)) = false := by simp
  go_enter Try.func37, Try.ntmps37
  go_wp2_with fail
  go_loopw [5] (fun s5 wr => ∃ k : Nat, k ≤ n ∧ s5 = .int .i64 k ∧ wr.heap[Q1]? = some (.cells (qv qs) 49 (0, 0)) ∧ wr.heap[Q2]? = some (.cells (qv qs) 49 (0, 0)) ∧ Below w.heap.size w wr) (fun s5 _ => n - (intOf s5).toNat)
  case atStart => exact ⟨0, Nat.zero_le _, rfl, h1, h2, Below.refl _ _⟩
  case round =>
    obtain ⟨k, hk, rfl, ha, hb, hB⟩ := hrel
    have HA := Lib.hid ha
    have HB2 := Lib.hid hb
    have HB := Lib.hid hB
    clear ha hb hB
    by_cases hlt : k < n
    · obtain ⟨q, hq⟩ := get_of_lt (show k < qs.length by omega)
      have a0 := hp_cell HA.out (qv_get hq).1
      have a1 := hp_cell HA.out (qv_get hq).2
      have b0 := hp_cell HB2.out (qv_get hq).1
      have b1 := hp_cell HB2.out (qv_get hq).2
      have e1 : (q.1 != q.1) = false := by simp
      have e2 : (q.2 != q.2) = false := by simp
      clear hq hn
      go_wp2_with fail
      go_quiet (fail)
      go_wp2_with fail
      go_roundw
      case rel => exact ⟨k + 1, by omega, by go_num, HA.out, HB2.out, HB.out.trans ⟨rfl, rfl, rfl, Nat.le_refl _, fun _ _ => rfl⟩⟩
      case measure => simp [intOf]; omega
    · have : k = n := by omega
      subst this
      go_wp2_with fail
      go_ret
      exact ⟨rfl, HB.out⟩

/-- The tests of the example. -/
def exT : List T := [⟨[0, 0, 0, 0], 0, 6⟩, ⟨[0, 0, 0, 0], 0, 7⟩]
theorem exT_0 : vpt exP exT = 0 := by decide
theorem exT_1 : scL exP exT = [(1, 2), (1, 2)] := by
  have r : runE exP [0, 0, 0, 0] = [6, 0, 0, 0] := by unfold runE; rw [ex_run]
  have d : doneA exP [0, 0, 0, 0] = [0, 1] := by unfold doneA runS; rw [if_pos (exTr _ rfl (by decide)), ex_run]; decide
  have p1 : pas exP ⟨[0, 0, 0, 0], 0, 6⟩ = true := by unfold pas endP; simp only; rw [r]; rfl
  have p2 : pas exP ⟨[0, 0, 0, 0], 0, 7⟩ = false := by unfold pas endP; simp only; rw [r]; rfl
  have w : rowL exP [0, 0, 0, 0] = [1, 1] := by unfold rowL; rw [d]; rfl
  have c1 : cnt exP exT 1 = ([0, 0], [1, 1], 0) := by
    rw [cnt_yes (t := ⟨[0, 0, 0, 0], 0, 6⟩) rfl p1]
    simp only [w]
    rfl
  have c2 : cnt exP exT 2 = ([1, 1], [1, 1], 1) := by
    rw [cnt_no (t := ⟨[0, 0, 0, 0], 0, 7⟩) rfl p2, c1]
    simp only [w]
    rfl
  have q : ∀ i, i < 2 → scQ exP exT i = (1, 2) := by
    intro i hi
    have h : i = 0 ∨ i = 1 := by omega
    unfold scQ scN scD
    rw [show exT.length = 2 from rfl, c2]
    rcases h with rfl | rfl <;> decide
  show (((List.replicate 2 ((0, 0) : Int × Int)).set 0 (scQ exP exT 0)).set 1 (scQ exP exT 1)) = _
  rw [q 0 (by omega), q 1 (by omega)]
  rfl
theorem exB_0 : vcon [0, 0, 0, 0] [1, 0, 0, 2] 3 0 1 = 0 := by decide
theorem exB_1 : boxN [0, 0, 0, 0] [1, 0, 0, 2] 3 0 1 = 6 := by decide

end Go.Proofs.Ytndmjenfgggfbaa
