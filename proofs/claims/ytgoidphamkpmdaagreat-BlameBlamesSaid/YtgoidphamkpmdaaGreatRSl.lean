/- Slice of the document's answers: contract. -/
import Derived.Test.YtgoidphamkpmdaaGreatRefC
import Derived.Test.YtgoidphamkpmdaaGreatPlain
import Derived.Test.YtgoidphamkpmdaaGreatKnownT
set_option linter.unusedVariables false
set_option linter.unusedSimpArgs false
namespace Go.Proofs.YtgoidphamkpmdaaGreat
open Go.RowKit Tinker

theorem mkB0 (w : World) : (Instr.makeSlice 99 (.int .i64 ((0 : Nat) : Int)) (.int .i64 ((0 : Nat) : Int))).run Tryz.prog w = .ok (.slice (some ⟨w.heap.size, 0, none⟩) 0 0) (w.alloc (.cells (bv (List.replicate 0 false)) 4)) := by kernel_rfl
theorem mkB1 (w : World) : (Instr.makeSlice 99 (.int .i64 ((1 : Nat) : Int)) (.int .i64 ((1 : Nat) : Int))).run Tryz.prog w = .ok (.slice (some ⟨w.heap.size, 0, none⟩) 1 1) (w.alloc (.cells (bv (List.replicate 1 false)) 4)) := by kernel_rfl
theorem mkB2 (w : World) : (Instr.makeSlice 99 (.int .i64 ((2 : Nat) : Int)) (.int .i64 ((2 : Nat) : Int))).run Tryz.prog w = .ok (.slice (some ⟨w.heap.size, 0, none⟩) 2 2) (w.alloc (.cells (bv (List.replicate 2 false)) 4)) := by kernel_rfl
theorem mkB3 (w : World) : (Instr.makeSlice 99 (.int .i64 ((3 : Nat) : Int)) (.int .i64 ((3 : Nat) : Int))).run Tryz.prog w = .ok (.slice (some ⟨w.heap.size, 0, none⟩) 3 3) (w.alloc (.cells (bv (List.replicate 3 false)) 4)) := by kernel_rfl
theorem mkB4 (w : World) : (Instr.makeSlice 99 (.int .i64 ((4 : Nat) : Int)) (.int .i64 ((4 : Nat) : Int))).run Tryz.prog w = .ok (.slice (some ⟨w.heap.size, 0, none⟩) 4 4) (w.alloc (.cells (bv (List.replicate 4 false)) 4)) := by kernel_rfl
theorem mkB5 (w : World) : (Instr.makeSlice 99 (.int .i64 ((5 : Nat) : Int)) (.int .i64 ((5 : Nat) : Int))).run Tryz.prog w = .ok (.slice (some ⟨w.heap.size, 0, none⟩) 5 5) (w.alloc (.cells (bv (List.replicate 5 false)) 4)) := by kernel_rfl
theorem mkB6 (w : World) : (Instr.makeSlice 99 (.int .i64 ((6 : Nat) : Int)) (.int .i64 ((6 : Nat) : Int))).run Tryz.prog w = .ok (.slice (some ⟨w.heap.size, 0, none⟩) 6 6) (w.alloc (.cells (bv (List.replicate 6 false)) 4)) := by kernel_rfl
theorem mkB7 (w : World) : (Instr.makeSlice 99 (.int .i64 ((7 : Nat) : Int)) (.int .i64 ((7 : Nat) : Int))).run Tryz.prog w = .ok (.slice (some ⟨w.heap.size, 0, none⟩) 7 7) (w.alloc (.cells (bv (List.replicate 7 false)) 4)) := by kernel_rfl
theorem mkB8 (w : World) : (Instr.makeSlice 99 (.int .i64 ((8 : Nat) : Int)) (.int .i64 ((8 : Nat) : Int))).run Tryz.prog w = .ok (.slice (some ⟨w.heap.size, 0, none⟩) 8 8) (w.alloc (.cells (bv (List.replicate 8 false)) 4)) := by kernel_rfl
theorem mkBools (n : Nat) (hn : n ≤ 8) (w : World) : (Instr.makeSlice 99 (.int .i64 (n : Int)) (.int .i64 (n : Int))).run Tryz.prog w = .ok (.slice (some ⟨w.heap.size, 0, none⟩) n n) (w.alloc (.cells (bv (List.replicate n false)) 4)) := by
  have c : n = 0 ∨ n = 1 ∨ n = 2 ∨ n = 3 ∨ n = 4 ∨ n = 5 ∨ n = 6 ∨ n = 7 ∨ n = 8 := by omega
  rcases c with rfl | rfl | rfl | rfl | rfl | rfl | rfl | rfl | rfl
  · exact mkB0 w
  · exact mkB1 w
  · exact mkB2 w
  · exact mkB3 w
  · exact mkB4 w
  · exact mkB5 w
  · exact mkB6 w
  · exact mkB7 w
  · exact mkB8 w

theorem rIsRegister_any (n : Int) (w : World) : Calls Tryz.prog 80 #[.int .i64 n] w fun e w' => e = .returned (.bool (isReg n)) ∧ w = w' := by
  unfold isReg
  go_enter Tryz.func80, Tryz.ntmps80
  go_wp2_with (go_at_call 131; refine (within_any _ _ _ _).mono ?_; rintro e w' ⟨rfl, rfl⟩)
  go_ret
  exact ⟨rfl, rfl⟩

/-- What holds on the way through Slice: the block of what matters, that of what is inside, the steps. -/
structure RSI (M I base : Nat) (a1 : Option Addr) (st : List (Nat × List Int)) (B : List Bool × List Bool) (w W : World) : Prop where
  bM : W.heap[M]? = some (.cells (bv B.1) 4 (0, 0))
  bI : W.heap[I]? = some (.cells (bv B.2) 4 (0, 0))
  st : StepsAt W base a1 st
  below : Below w.heap.size w W
theorem RSI.low {M I base : Nat} {a1 : Option Addr} {st : List (Nat × List Int)} {B : List Bool × List Bool} {w W W' : World} (h : RSI M I base a1 st B w W) (hb : Below W.heap.size W W') : RSI M I base a1 st B w W' :=
  ⟨hp_below h.bM hb (hp_lt h.bM), hp_below h.bI hb (hp_lt h.bI), h.st.below hb (Nat.le_refl _), h.below.trans (hb.mono h.below.size)⟩
theorem RSI.alloc {M I base : Nat} {a1 : Option Addr} {st : List (Nat × List Int)} {B : List Bool × List Bool} {w W : World} (h : RSI M I base a1 st B w W) (o : Obj) : RSI M I base a1 st B w (W.alloc o) :=
  h.low ((Below.refl _ _).alloc (Nat.le_refl _) o)
theorem RSI.putM {M I base : Nat} {a1 : Option Addr} {st : List (Nat × List Int)} {B : List Bool × List Bool} {w W : World} (h : RSI M I base a1 st B w W) (hM : w.heap.size ≤ M) (hMb : M < base) (hn : M ≠ I) (j : Nat) (x : Bool) : RSI M I base a1 st (B.1.set j x, B.2) w (W.setCell ⟨M, j, none⟩ (.bool x)) :=
  ⟨by rw [← bv_set]; exact hp_put h.bM j _, hp_set h.bI (fun e => hn e.symm) _, h.st.put hMb _ _, h.below.setCell (p := ⟨M, j, none⟩) hM _⟩
theorem RSI.putI {M I base : Nat} {a1 : Option Addr} {st : List (Nat × List Int)} {B : List Bool × List Bool} {w W : World} (h : RSI M I base a1 st B w W) (hI : w.heap.size ≤ I) (hIb : I < base) (hn : M ≠ I) (j : Nat) (x : Bool) : RSI M I base a1 st (B.1, B.2.set j x) w (W.setCell ⟨I, j, none⟩ (.bool x)) :=
  ⟨hp_set h.bM hn _, by rw [← bv_set]; exact hp_put h.bI j _, h.st.put hIb _ _, h.below.setCell (p := ⟨I, j, none⟩) hI _⟩

theorem StepsAt.get0 {W : World} {base g k i : Nat} {st : List (Nat × List Int)} {s : List Int} (h : StepsAt W base (some ⟨g, 0, none⟩) st) (hx : st[k]? = some (i, s)) : W.cell? ⟨g, k * 2, none⟩ = some (.int .i64 (i : Int)) := by
  obtain ⟨g', e, _, _, hc⟩ := h.resolve_left (by rintro rfl; simp at hx)
  injection e with e
  injection e with e
  subst e
  exact (hc k i s hx).1
theorem StepsAt.blt {W : World} {base g k i : Nat} {st : List (Nat × List Int)} {s : List Int} (h : StepsAt W base (some ⟨g, 0, none⟩) st) (hx : st[k]? = some (i, s)) : base < W.heap.size := by
  obtain ⟨g', e, h1, h2, hc⟩ := h.resolve_left (by rintro rfl; simp at hx)
  omega
theorem orTo_yes {a m : List Bool} {k : Nat} (h : a.getD k false = true) : orTo a m (k + 1) = (orTo a m k).set k true := by rw [orTo, if_pos h]
theorem orTo_no {a m : List Bool} {k : Nat} (h : a.getD k false = false) : orTo a m (k + 1) = orTo a m k := by rw [orTo, if_neg (by rw [h]; simp)]
theorem set_same {m : List Bool} {k : Nat} {x : Bool} (h : m.getD k false = x) (hk : k < m.length) : m.set k x = m := by
  refine List.ext_getElem? fun i => ?_
  rw [List.getElem?_set]
  split
  · rename_i e; subst e
    obtain ⟨y, hy⟩ := get_of_lt hk
    rw [getD_of_get hy] at h
    subst h
    simp [hy]
  · rfl

theorem orTo_step {a m : List Bool} {k : Nat} {x y : Bool} (hx : (orTo a m k).getD k false = x) (hy : a.getD k false = y) (hk : k < (orTo a m k).length) : (orTo a m k).set k (x || y) = orTo a m (k + 1) := by
  cases y
  · rw [orTo_no hy, Bool.or_false, set_same hx hk]
  · rw [orTo_yes hy, Bool.or_true]
theorem matB_or (l : L) (m : List Bool) : orTo (rd l) (mat1 l m) 4 = matB l m := rfl

theorem foldrSR_1 (p : List L) (n r : Nat) (st : List (Nat × List Int)) : (st.foldr (stR p) (slR0 n r)).1.length = 4 := by
  induction st with
  | nil => simp [slR0]
  | cons x q ih =>
    rw [List.foldr_cons]; unfold stR; simp only
    split
    · simp only [matB_length]; exact ih
    · exact ih
theorem foldrSR_2 (p : List L) (n r : Nat) (st : List (Nat × List Int)) : (st.foldr (stR p) (slR0 n r)).2.length = n := by
  rw [foldrSR_length]; simp [slR0]
theorem drop_step {p : List L} {B0 : List Bool × List Bool} {st : List (Nat × List Int)} {j i : Nat} {s : List Int} (h : st[j]? = some (i, s)) : (st.drop j).foldr (stR p) B0 = stR p (i, s) ((st.drop (j + 1)).foldr (stR p) B0) := by
  obtain ⟨hj, e⟩ := List.getElem?_eq_some_iff.1 h
  rw [List.drop_eq_getElem_cons hj, List.foldr_cons, e]
theorem slA_eq {ps : List L} {s : List Int} {r : Int} (hz : slCode ps s r = 0) (h8 : ps.length ≤ 8) : slA ps s r = plc (((runS ps s).foldr (stR ps) (slR0 ps.length r.toNat)).2) := by
  unfold slA
  rw [if_pos hz]
  exact slice_eq runS_asc h8 runS_lt _

set_option maxRecDepth 100000 in
set_option maxHeartbeats 4000000 in
theorem rSlice_ok (a b : Option Addr) (ca cb : Nat) (ps : List L) (s : List Int) (r : Int) (w : World) (hp : LinesAt w a ps) (hs : IntsAt w b s) (hz : vr ps s = 0) (hr : isReg r = true) :
    Calls Tryz.prog 35 #[.slice a ps.length ca, .slice b s.length cb, .int .i64 r] w (GivesR (plc (((runS ps s).foldr (stR ps) (slR0 ps.length r.toNat)).2)) 0 w) := by
  have HV := Lib.hid (asked_any a b ca cb ps s w hp hs)
  have HT := Lib.hid (fun w hp hs => trace_no a b ca cb ps s w hp hs hz)
  have HR := Lib.hid (fun w => rIsRegister_any r w)
  rw [hr] at HR
  obtain ⟨r0, r3⟩ := isReg_iff.1 hr
  have h8 := (vp_ok (vr_ok hz).1).1
  have hli := (vp_ok (vr_ok hz).1).2
  have hlen := runS_len (ps := ps) (s := s)
  have hlt0 := runS_lt (ps := ps) (s := s)
  have HZ := Lib.hid hz
  have hf4 := false4 r r0 r3
  have r4 : r < 4 := by omega
  clear hz hr
  generalize runS ps s = st at HT hlen hlt0
  have HB1 := Lib.hid (foldrSR_1 ps ps.length r.toNat)
  have HB2 := Lib.hid (foldrSR_2 ps ps.length r.toNat)
  have hmk4 := mk4
  have hmk := mkBools ps.length h8
  go_enter Tryz.func35, Tryz.ntmps35
  go_wp2_with fail
  refine HV.out.mono ?_
  rintro e w1 ⟨rfl, hB1⟩
  rw [HZ.out]
  go_wp2_with (go_at_call 80; refine (HR.out _).mono ?_; rintro e w' ⟨rfl, rfl⟩)
  have hW := ((Below.refl w1.heap.size w1).alloc (Nat.le_refl _) (.cells ([Value.bool false, .bool false, .bool false, .bool false].set r.toNat (.bool true)).toArray 4)).alloc (by simp) (.cells (bv (List.replicate ps.length false)) 4)
  have hW0 := hB1.trans (hW.mono hB1.size)
  refine (HT.out _ (hp.below hW0 (Nat.le_refl _)) (hs.below hW0 (Nat.le_refl _))).mono ?_
  intro e w2 hG
  obtain ⟨a1, c1, b1, cb1, rfl, hst, _, _, hB2⟩ := hG
  have hB3 := hW0.trans (hB2.mono hW0.size)
  have hI0 : RSI w1.heap.size (w1.heap.size + 1) (w1.heap.size + 2) a1 st (slR0 ps.length r.toNat) w w2 :=
    ⟨hp_below (hp_alloc (by rw [set4]; exact hp_new rfl)) hB2 (by simp; omega), hp_below (hp_new (by simp)) hB2 (by simp), by have := hst; simpa using this, hB3⟩
  have hw1 := hB1.size
  clear hst hW hW0 hB2 hB3 hf4 hmk hmk4 hs hB1
  generalize w1.heap.size = M at hI0 hw1
  have hIM : M < M + 1 ∧ M + 1 < M + 2 := by omega
  generalize M + 2 = base at hI0 hIM
  generalize M + 1 = I at hI0 hIM
  obtain ⟨hMI, hIb⟩ := hIM
  generalize hB0 : slR0 ps.length r.toNat = B0 at hI0 HB1 HB2
  have HB0 := Lib.hid hB0
  clear hB0
  go_wp2_with fail
  go_loopw [13] (fun s13 wr => ∃ k : Nat, k ≤ st.length ∧ s13 = .int .i64 ((k : Int) - 1) ∧ RSI M I base a1 st ((st.drop k).foldr (stR ps) B0) w wr) (fun s13 _ => (intOf s13 + 1).toNat)
  case atStart => exact ⟨st.length, Nat.le_refl _, rfl, by rw [List.drop_length]; exact hI0⟩
  case round =>
    obtain ⟨k, hk, rfl, hI⟩ := hrel
    clear hI0
    match k, hk, hI with
    | 0, hk, hI =>
      rw [show ((0 : Nat) : Int) - 1 = -1 from rfl]
      have hl2 := HB2.out st
      rw [List.drop_zero] at hI
      generalize hB : st.foldr (stR ps) B0 = B at hI hl2
      have HBE := Lib.hid hB
      have HI := Lib.hid hI
      have HL2 := Lib.hid hl2
      have HP := Lib.hid (rSet_any I 0 ps.length B.2 wr (fun j n hj => by rw [Nat.zero_add]; have h := hp_cell HI.out.bI (bv_get B.2 j (List.getElem?_eq_some_iff.1 hj).1); rwa [getD_of_get hj] at h) (hp_lt HI.out.bI) (by rw [HL2.out]; omega))
      rw [HL2.out] at HP
      clear hB hI hl2
      go_wp2_with fail
      refine HP.out.mono ?_
      intro e w4 hG
      obtain ⟨a', c', rfl, hown, hB7⟩ := hG.wide HI.out.below
      have HO := Lib.hid (ints_of_own hown).1
      clear hown hG
      go_wp2_with fail
      go_ret2
      rw [HB0.out, HBE.out]
      exact ⟨a', c', rfl, HO.out, hB7⟩
    | j + 1, hk, hI =>
      rw [show ((j + 1 : Nat) : Int) - 1 = (j : Int) by omega]
      obtain ⟨g, i, t, bb, cc, rfl, hx, hc1, _, _⟩ := hI.st.at_ (show j < st.length by omega)
      have hil := hlt0 _ (mem_of_get hx)
      obtain ⟨pb, po, l, rfl, hlb, hl, h0, h1, h2, h3⟩ := (hp.below hI.below (Nat.le_refl _)).at_ hil
      have hln := hli l (mem_of_get hl)
      have HD := Lib.hid (drop_step (p := ps) (B0 := B0) hx)
      have HE := Lib.hid (show stR ps (i, t) = fun B => if l.op == 7 || (Tinker.wr l && B.1.getD l.to.toNat false) then (matB l B.1, B.2.set i true) else B by
        funext B; unfold stR; simp only; rw [getD_of_get hl])
      have hb1 := HB1.out (st.drop (j + 1))
      have hb2 := HB2.out (st.drop (j + 1))
      rw [HE.out] at HD
      generalize (st.drop (j + 1)).foldr (stR ps) B0 = B at hI HD hb1 hb2
      have HX := Lib.hid hx
      clear HE hx hl
      have hI2 := hI
      have hbl := hI.st.blt HX.out
      clear hI
      go_upto_region 13 with fail
      go_cut [14] (fun s14 wx => ∃ Lb : Nat, s14 = .pointer (some ⟨Lb, 0, none⟩) ∧ base ≤ Lb ∧ wx.heap[Lb]? = some (.cells #[.int .i64 l.op, .int .i64 l.to, .int .i64 l.a, .int .i64 l.b] 56 (0, 0)) ∧ RSI M I base (some ⟨g, 0, none⟩) st B w wx)
      case first =>
        have HI := Lib.hid hI2
        clear hI2
        go_wp2_with fail
        go_meet
        exact ⟨_, rfl, by omega, hp_new rfl, HI.out.alloc _⟩
      case rest =>
        obtain ⟨Lb, rfl, hLb, hL, hI⟩ := hcut
        clear hI2 hc1 h0 h1 h2 h3 hlb
        have c0 := hp_cell hL (j := 0) (by rfl)
        have c1' := hp_cell hL (j := 1) (by rfl)
        have c2 := hp_cell hL (j := 2) (by rfl)
        have c3 := hp_cell hL (j := 3) (by rfl)
        by_cases hin : (l.op == 7 || (Tinker.wr l && B.1.getD l.to.toNat false)) = true
        · have HDE := Lib.hid (HD.out.trans (if_pos hin))
          clear HD
          go_upto_region 14 with fail
          go_cut [69] (fun s69 wx => s69 = .bool false ∧ wx.heap[Lb]? = some (.cells #[.int .i64 l.op, .int .i64 l.to, .int .i64 l.a, .int .i64 l.b] 56 (0, 0)) ∧ RSI M I base (some ⟨g, 0, none⟩) st B w wx)
          case first =>
            have HI := Lib.hid hI
            have HL := Lib.hid hL
            clear hI hL
            by_cases h7 : l.op = 7
            · have g7 : (l.op != 7) = false := by simpa using h7
              clear hin h7
              go_wp2_with fail
              go_meet
              exact ⟨rfl, HL.out, HI.out⟩
            · have g7 : (l.op != 7) = true := by simpa using h7
              have hwm : Tinker.wr l = true ∧ B.1.getD l.to.toNat false = true := by simpa [h7] using hin
              obtain ⟨hw, hm⟩ := hwm
              clear hin h7
              go_wp2_with fail
              refine (rWrites_any l _).mono ?_
              rintro e w4 ⟨rfl, hB4⟩
              rw [hw]
              have HI2 := Lib.hid (HI.out.low hB4)
              have HL2 := Lib.hid (hp_below HL.out hB4 (hp_lt HL.out))
              obtain ⟨t0, t3⟩ := wr_to hln hw
              have t4 : l.to < 4 := by omega
              have d1 := hp_cell HL2.out (j := 1) (by rfl)
              have m1 := hp_cell HI2.out.bM (bv_get B.1 l.to.toNat (by omega))
              rw [hm] at m1
              clear c0 c1' c2 c3 hB4 HI HL hw hm
              go_wp2_with fail
              go_meet
              exact ⟨rfl, HL2.out, HI2.out⟩
          case rest =>
            clear hI hL c0 c1' c2 c3
            obtain ⟨rfl, hL, hI⟩ := hcut
            have c0 := hp_cell hL (j := 0) (by rfl)
            have c1' := hp_cell hL (j := 1) (by rfl)
            have c2 := hp_cell hL (j := 2) (by rfl)
            have c3 := hp_cell hL (j := 3) (by rfl)
            go_upto_region 15 with fail
            go_cut [] (fun wx => wx.heap[Lb]? = some (.cells #[.int .i64 l.op, .int .i64 l.to, .int .i64 l.a, .int .i64 l.b] 56 (0, 0)) ∧ RSI M I base (some ⟨g, 0, none⟩) st (B.1, B.2.set i true) w wx)
            case first =>
              have hc1 := hI.st.get0 HX.out
              have i1 := hp_cell hI.bI (bv_get B.2 i (by omega))
              have i2 := hp_free hI.bI i
              have HI := Lib.hid hI
              have HL := Lib.hid hL
              clear hI hL
              go_wp2_with fail
              go_meet
              exact ⟨hp_set HL.out (show Lb ≠ I by omega) _, HI.out.putI (by omega) hIb (by omega) i true⟩
            case rest =>
              clear hI hL c0 c1' c2 c3
              obtain ⟨hL, hI⟩ := hcut
              have c0 := hp_cell hL (j := 0) (by rfl)
              have c1' := hp_cell hL (j := 1) (by rfl)
              have c2 := hp_cell hL (j := 2) (by rfl)
              have c3 := hp_cell hL (j := 3) (by rfl)
              go_upto_if 78 with (go_at_call 82; refine (rWrites_any l _).mono ?_; rintro e w5 ⟨rfl, hB5⟩)
              replace hI := hI.low hB5
              have hL2 := hp_below hL hB5 (hp_lt hL)
              clear hL c0 c1' c2 c3 hB5
              go_cut [] (fun wx => wx.heap[Lb]? = some (.cells #[.int .i64 l.op, .int .i64 l.to, .int .i64 l.a, .int .i64 l.b] 56 (0, 0)) ∧ RSI M I base (some ⟨g, 0, none⟩) st (mat1 l B.1, B.2.set i true) w wx)
              case first =>
                cases hw : Tinker.wr l
                · have HE := Lib.hid (show mat1 l B.1 = B.1 by unfold mat1; rw [hw]; rfl)
                  have HI := Lib.hid hI
                  have HL := Lib.hid hL2
                  clear hI hL2 hw
                  go_wp2_with fail
                  go_meet
                  rw [HE.out]
                  exact ⟨HL.out, HI.out⟩
                · have HE := Lib.hid (show mat1 l B.1 = B.1.set l.to.toNat false by unfold mat1; rw [hw]; rfl)
                  obtain ⟨t0, t3⟩ := wr_to hln hw
                  have t4 : l.to < 4 := by omega
                  have d1 := hp_cell hL2 (j := 1) (by rfl)
                  have m1 := hp_cell hI.bM (bv_get B.1 l.to.toNat (by omega))
                  have m2 := hp_free hI.bM l.to.toNat
                  have HI := Lib.hid hI
                  have HL := Lib.hid hL2
                  clear hI hL2 hw
                  go_wp2_with fail
                  go_meet
                  rw [HE.out]
                  exact ⟨hp_set HL.out (show Lb ≠ M by omega) _, HI.out.putM (by omega) (by omega) (by omega) _ false⟩
              case rest =>
                clear hI hL2
                obtain ⟨hL, hI⟩ := hcut
                have c0 := hp_cell hL (j := 0) (by rfl)
                have c1' := hp_cell hL (j := 1) (by rfl)
                have c2 := hp_cell hL (j := 2) (by rfl)
                have c3 := hp_cell hL (j := 3) (by rfl)
                go_wp2_with fail
                refine (rReads_any l _ hln).mono ?_
                intro e w6 hG
                obtain ⟨R, rfl, hR, hRl, hB6⟩ := hG
                have hbl2 := hI.st.blt HX.out
                replace hI := hI.low hB6
                clear hL c0 c1' c2 c3 hB6
                have HR := Lib.hid hR
                clear hR
                go_wp2_with fail
                go_loopw [16] (fun s16 wq => ∃ q : Nat, q ≤ 4 ∧ s16 = .int .i64 q ∧ wq.heap[R]? = some (.cells (bv (rd l)) 4 (0, 0)) ∧ RSI M I base (some ⟨g, 0, none⟩) st (orTo (rd l) (mat1 l B.1) q, B.2.set i true) w wq) (fun s16 _ => 4 - (intOf s16).toNat)
                case atStart => exact ⟨0, by omega, rfl, HR.out, hI⟩
                case round =>
                  clear hI
                  obtain ⟨q, hq, rfl, hR, hI⟩ := hrel
                  by_cases hlt : q < 4
                  · have hol : (orTo (rd l) (mat1 l B.1) q).length = 4 := by rw [orTo_length, mat1_length]; exact hb1
                    have m1 := hp_cell hI.bM (bv_get (orTo (rd l) (mat1 l B.1) q) q (by omega))
                    have m2 := hp_free hI.bM q
                    have r1 := hp_cell hR (bv_get (rd l) q (by rw [rd_length]; omega))
                    have HI := Lib.hid hI
                    have HR2 := Lib.hid hR
                    clear hI hR
                    generalize hx : (orTo (rd l) (mat1 l B.1) q).getD q false = x at m1
                    generalize hy : (rd l).getD q false = y at r1
                    have HX2 := Lib.hid hx
                    have HY2 := Lib.hid hy
                    have HOL := Lib.hid hol
                    clear hx hy hol
                    have HST := Lib.hid (orTo_step HX2.out HY2.out (by rw [HOL.out]; omega))
                    have hpm : RSI M I base (some ⟨g, 0, none⟩) st ((orTo (rd l) (mat1 l B.1) q).set q (x || y), B.2.set i true) w (wr.setCell ⟨M, q, none⟩ (.bool (x || y))) := HI.out.putM (by omega) (by omega) (by omega) q _
                    rw [HST.out] at hpm
                    have HPM := Lib.hid hpm
                    have HRM := Lib.hid (hp_set HR2.out (show R ≠ M by omega) (p := ⟨M, q, none⟩) (.bool (x || y)))
                    clear hpm HI HR2 HST HX2 HY2
                    cases x <;> cases y
                    all_goals
                      go_wp2_with fail
                      go_roundw
                      case rel => exact ⟨q + 1, by omega, by go_num, HRM.out, HPM.out⟩
                      case measure => simp [intOf]; omega
                  · have hq4 : q = 4 := by omega
                    subst hq4
                    rw [matB_or] at hI
                    have HI := Lib.hid hI
                    clear hI hR
                    go_wp2_with fail
                    go_roundw
                    case rel => exact ⟨j, by omega, rfl, by rw [HDE.out]; exact HI.out⟩
                    case measure => simp [intOf]
        · have HDE := Lib.hid (HD.out.trans (if_neg hin))
          clear HD
          rw [Bool.not_eq_true, Bool.or_eq_false_iff] at hin
          obtain ⟨h7, hwm⟩ := hin
          have g7 : (l.op != 7) = true := by rw [bne, h7]; rfl
          cases hw : Tinker.wr l
          · have HI := Lib.hid hI
            have HL := Lib.hid hL
            clear hI hL hwm h7
            go_wp2_with fail
            refine (rWrites_any l _).mono ?_
            rintro e w4 ⟨rfl, hB4⟩
            rw [hw]
            have HI2 := Lib.hid (HI.out.low hB4)
            clear c0 c1' c2 c3 hB4 HI HL hw
            go_wp2_with fail
            go_roundw
            case rel => exact ⟨j, by omega, rfl, by rw [HDE.out]; exact HI2.out⟩
            case measure => simp [intOf]
          · have hm : B.1.getD l.to.toNat false = false := by rw [hw] at hwm; simpa using hwm
            have HI := Lib.hid hI
            have HL := Lib.hid hL
            clear hI hL hwm h7
            go_wp2_with fail
            refine (rWrites_any l _).mono ?_
            rintro e w4 ⟨rfl, hB4⟩
            rw [hw]
            have HI2 := Lib.hid (HI.out.low hB4)
            have HL2 := Lib.hid (hp_below HL.out hB4 (hp_lt HL.out))
            obtain ⟨t0, t3⟩ := wr_to hln hw
            have t4 : l.to < 4 := by omega
            have d1 := hp_cell HL2.out (j := 1) (by rfl)
            have m1 := hp_cell HI2.out.bM (bv_get B.1 l.to.toNat (by omega))
            rw [hm] at m1
            clear c0 c1' c2 c3 hB4 HI HL hw hm
            go_wp2_with fail
            go_roundw
            case rel => exact ⟨j, by omega, rfl, by rw [HDE.out]; exact HI2.out⟩
            case measure => simp [intOf]

/-- Slice of the document's answers. -/
theorem rSlice_any (a b : Option Addr) (ca cb : Nat) (ps : List L) (s : List Int) (r : Int) (w : World) (hp : LinesAt w a ps) (hs : IntsAt w b s) :
    Calls Tryz.prog 35 #[.slice a ps.length ca, .slice b s.length cb, .int .i64 r] w (GivesR (slA ps s r) (slCode ps s r) w) := by
  by_cases hz : vr ps s = 0
  · cases hr : isReg r
    · have HC := Lib.hid (show slCode ps s r = 1 by unfold slCode; rw [if_pos hz, hr]; rfl)
      have HA := Lib.hid (show slA ps s r = [] by unfold slA; rw [if_neg (by rw [HC.out]; decide)])
      have HV := Lib.hid (asked_any a b ca cb ps s w hp hs)
      have HR := Lib.hid (fun w => rIsRegister_any r w)
      rw [hr] at HR
      rw [HC.out, HA.out]
      have HZ := Lib.hid hz
      clear hz hr HC HA hp hs
      go_enter Tryz.func35, Tryz.ntmps35
      go_wp2_with fail
      refine HV.out.mono ?_
      rintro e w1 ⟨rfl, hB1⟩
      rw [HZ.out]
      go_wp2_with (go_at_call 80; refine (HR.out _).mono ?_; rintro e w' ⟨rfl, rfl⟩)
      go_ret2
      exact givesR_nil hB1
    · have hc : slCode ps s r = 0 := by unfold slCode; rw [if_pos hz, hr]; rfl
      rw [hc, slA_eq hc (vp_ok (vr_ok hz).1).1]
      exact rSlice_ok a b ca cb ps s r w hp hs hz hr
  · have HC := Lib.hid (show slCode ps s r = vr ps s by unfold slCode; rw [if_neg hz])
    have HA := Lib.hid (show slA ps s r = [] by unfold slA; rw [if_neg (by rw [HC.out]; exact hz)])
    have HV := Lib.hid (asked_any a b ca cb ps s w hp hs)
    rw [HC.out, HA.out]
    clear HC HA hp hs
    generalize vr ps s = c at *
    have hz1 : (c != 0) = true := by simpa using hz
    have hz2 : (c == 0) = false := by simpa using hz
    clear hz
    go_enter Tryz.func35, Tryz.ntmps35
    go_wp2_with fail
    refine HV.out.mono ?_
    rintro e w1 ⟨rfl, hB1⟩
    go_wp2_with fail
    go_ret2
    exact givesR_nil hB1

end Go.Proofs.YtgoidphamkpmdaaGreat
