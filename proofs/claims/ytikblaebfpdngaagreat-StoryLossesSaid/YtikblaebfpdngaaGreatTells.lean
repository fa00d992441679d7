/- Several texts in one. -/
import Derived.Test.YtikblaebfpdngaaGreatChkP
import Derived.Test.YtikblaebfpdngaaGreatRSl
/- which, with each of its three functions; Passing, Failing, Tells of check: contracts. -/
set_option linter.unusedVariables false
set_option linter.unusedSimpArgs false
namespace Go.Proofs.YtikblaebfpdngaaGreat
open Go.RowKit Tinker

/-- What has been asked of the first k. -/
def heldTo (f : T → Bool) (ts : List T) : Nat → List Bool
  | 0 => List.replicate ts.length false
  | k + 1 => match ts[k]? with
    | none => heldTo f ts k
    | some t => (heldTo f ts k).set k (f t)
theorem heldTo_length (f : T → Bool) (ts : List T) : ∀ k, (heldTo f ts k).length = ts.length
  | 0 => by simp [heldTo]
  | k + 1 => by
    rw [heldTo]
    split
    · exact heldTo_length f ts k
    · rw [List.length_set]; exact heldTo_length f ts k
theorem heldTo_succ {f : T → Bool} {ts : List T} {k : Nat} {t : T} (h : ts[k]? = some t) : heldTo f ts (k + 1) = (heldTo f ts k).set k (f t) := by rw [heldTo]; simp only [h]
theorem heldTo_get (f : T → Bool) (ts : List T) : ∀ k j, j < k → k ≤ ts.length → (heldTo f ts k)[j]? = (ts.map f)[j]?
  | 0, j, h, _ => by omega
  | k + 1, j, h, hk => by
    obtain ⟨t, ht⟩ := get_of_lt (show k < ts.length by omega)
    rw [heldTo_succ ht, List.getElem?_set, heldTo_length]
    by_cases e : k = j
    · subst e; rw [if_pos rfl, if_pos (by omega), List.getElem?_map, ht]; rfl
    · rw [if_neg e]; exact heldTo_get f ts k j (by omega) (by omega)
theorem heldTo_whole (f : T → Bool) (ts : List T) : heldTo f ts ts.length = ts.map f := by
  refine List.ext_getElem? fun j => ?_
  rcases Nat.lt_or_ge j ts.length with h | h
  · exact heldTo_get f ts _ j h (Nat.le_refl _)
  · rw [List.getElem?_eq_none (by rw [heldTo_length]; omega), List.getElem?_eq_none (by simpa using h)]

/-- A block of bools. -/
structure BlkB (M : Nat) (bs : List Bool) (w W : World) : Prop where
  bm : W.heap[M]? = some (.cells (bv bs) 4 (0, 0))
  below : Below w.heap.size w W
theorem BlkB.low {M : Nat} {bs : List Bool} {w W W' : World} (h : BlkB M bs w W) (hb : Below W.heap.size W W') : BlkB M bs w W' := ⟨hp_below h.bm hb (hp_lt h.bm), h.below.trans (hb.mono h.below.size)⟩
theorem BlkB.drew {M : Nat} {bs : List Bool} {w W : World} (h : BlkB M bs w W) : BlkB M bs w W.drew := ⟨hp_drew h.bm, h.below.drew⟩
theorem BlkB.put {M : Nat} {bs : List Bool} {w W : World} (h : BlkB M bs w W) (hM : w.heap.size ≤ M) (j : Nat) (y : Bool) : BlkB M (bs.set j y) w (W.setCell ⟨M, j, none⟩ (.bool y)) :=
  ⟨by rw [← bv_set]; exact hp_put h.bm _ _, h.below.setCell (p := ⟨M, _, none⟩) hM _⟩
theorem BlkB.bools {M : Nat} {bs : List Bool} {w W : World} (h : BlkB M bs w W) : BoolsAt W M 0 bs := fun j n hj => by
  rw [Nat.zero_add]
  have := hp_cell h.bm (bv_get bs j (List.getElem?_eq_some_iff.1 hj).1)
  rwa [getD_of_get hj] at this

set_option maxRecDepth 100000 in
set_option maxHeartbeats 1000000 in
theorem clos_failing (w0 : World) (P : Nat) (a : Option Addr) (ca : Nat) (ps : List L) (hP : w0.cell? ⟨P, 0, none⟩ = some (.slice a ps.length ca)) (hPl : P < w0.heap.size) (hp : LinesAt w0 a ps) (hv : vp ps = 0) (b : Option Addr) (cb : Nat) (t : T) (W : World) (hB : Below w0.heap.size w0 W) (ht : isT t = true) (hi : IntsAt W b t.inn) :
    Calls Tryz.prog 136 #[.agg #[.slice b t.inn.length cb, .int .i64 t.out, .int .i64 t.want], .pointer (some ⟨P, 0, none⟩)] W fun e w' => e = .returned (.bool ((fun t => !pas ps t) t)) ∧ Below W.heap.size W w' := by
  have HI := Lib.hid (boxT_new (a := b) (n := t.inn.length) (ca := cb) (out := t.out) (want := t.want) W)
  have hc := (HI.out.below.cell (p := ⟨P, 0, none⟩) (by show P < _; have := hB.size; omega)).trans ((hB.cell (p := ⟨P, 0, none⟩) hPl).trans hP)
  have HP := Lib.hid (fun w hp hs => passes_any a b ca cb ps t w hp hs hv ht)
  have x0 := HI.out.c0
  have x1 := HI.out.c1
  have x2 := HI.out.c2
  have HA := Lib.hid ((hp.below hB (Nat.le_refl _)).below HI.out.below (Nat.le_refl _))
  have HS := Lib.hid (hi.below HI.out.below (Nat.le_refl _))
  dsimp only
  generalize pas ps t = V at HP
  clear hi hp hP ht hv
  go_enter Tryz.func136, Tryz.ntmps136
  go_wp2_with fail
  refine (HP.out _ HA.out HS.out).mono ?_
  rintro e w1 ⟨rfl, hB1⟩
  go_wp2_with fail
  go_ret
  exact ⟨rfl, (HI.out.low hB1).below⟩

set_option maxRecDepth 100000 in
set_option maxHeartbeats 1000000 in
theorem which_failing (w0 : World) (P : Nat) (a : Option Addr) (ca : Nat) (ps : List L) (hP : w0.cell? ⟨P, 0, none⟩ = some (.slice a ps.length ca)) (hPl : P < w0.heap.size) (hp : LinesAt w0 a ps) (hv : vp ps = 0) (g : Option Addr) (cap : Nat) (ts : List T) (w : World) (hB0 : Below w0.heap.size w0 w) (hts : TestsAt w g ts) (hT : ∀ t ∈ ts, isT t = true) (h8 : ts.length ≤ 8) (F : T → Bool) (hF : ∀ t, F t = (fun t => !pas ps t) t) :
    Calls Tryz.prog 135 #[.slice g ts.length cap, .func (.func 136) #[] #[.pointer (some ⟨P, 0, none⟩)]] w (GivesInts (plc (ts.map F)) w) := by
  have hmk := mkBools ts.length h8
  have HF := Lib.hid hF
  clear hF
  have HCL := Lib.hid (fun (W : World) (t : T) b cb (hb : Below w.heap.size w W) ht hi => show Calls Tryz.prog 136 #[.agg #[.slice b t.inn.length cb, .int .i64 t.out, .int .i64 t.want], .pointer (some ⟨P, 0, none⟩)] W (fun e w' => e = .returned (.bool (F t)) ∧ Below W.heap.size W w') by rw [HF.out]; exact clos_failing w0 P a ca ps hP hPl hp hv b cb t W (hB0.trans (hb.mono hB0.size)) ht hi)
  go_enter Tryz.func135, Tryz.ntmps135
  go_wp2_with fail
  go_loopw [13] (fun s13 wr => ∃ k : Nat, k ≤ ts.length ∧ s13 = .int .i64 k ∧ BlkB w.heap.size (heldTo F ts k) w wr) (fun s13 _ => ts.length - (intOf s13).toNat)
  case atStart => exact ⟨0, Nat.zero_le _, rfl, hp_new rfl, (Below.refl _ _).alloc (Nat.le_refl _) _⟩
  case round =>
    obtain ⟨k, hk, rfl, hI⟩ := hrel
    by_cases hlt : k < ts.length
    · obtain ⟨b, off, t, a', c, rfl, hlb, ht, c0, c1, c2, hi⟩ := (hts.below hI.below (Nat.le_refl _)).at_ hlt
      have hbel := ((Below.refl _ _).alloc (Nat.le_refl _) (.cells #[.slice a' t.inn.length c, .int .i64 t.out, .int .i64 t.want] 40) : Below wr.heap.size wr _)
      have hI2 := hI.low hbel
      have hnew := boxT_new (a := a') (n := t.inn.length) (ca := c) (out := t.out) (want := t.want) wr
      have x0 := hnew.c0
      have x1 := hnew.c1
      have x2 := hnew.c2
      have HS := Lib.hid (HCL.out _ t a' c hI2.below (hT t (mem_of_get ht)) (hi.below hbel (Nat.le_refl _)))
      have HT := Lib.hid ht
      have HI := Lib.hid hI2
      clear ht hi hnew hI hI2 hbel
      go_wp2_with fail
      refine HS.out.mono ?_
      rintro e w1 ⟨rfl, hB1⟩
      have hI3 := HI.out.low hB1
      have m1 := hp_cell hI3.bm (bv_get (heldTo F ts k) k (by rw [heldTo_length]; omega))
      have m2 := hp_free hI3.bm k
      have HI3 := Lib.hid hI3
      clear hI3 hB1 HS HI x0 x1 x2
      go_wp2_with fail
      go_roundw
      case rel => exact ⟨k + 1, by omega, by go_num, by rw [heldTo_succ HT.out]; exact HI3.out.put (Nat.le_refl _) _ _⟩
      case measure => simp [intOf]; omega
    · obtain rfl : k = ts.length := by omega
      have HB := Lib.hid hI.below
      rw [heldTo_whole] at hI
      have HP := Lib.hid (places_any w.heap.size 0 (ts.map F).length (ts.map F) wr hI.bools (hp_lt hI.bm) (by simp; omega))
      rw [List.length_map] at HP
      clear hI
      go_wp2_with fail
      refine HP.out.mono ?_
      intro e w1 hG
      obtain ⟨a1, c1, rfl, ho, hB1⟩ := hG.wide HB.out
      have HO := Lib.hid ho
      clear ho hG
      go_wp2_with fail
      go_ret
      exact ⟨a1, c1, rfl, HO.out, hB1⟩

/-- What Passing (true) and Failing (false) answer. -/
def pL (b : Bool) (ps : List L) (ts : List T) : List Int := if vpt ps ts = 0 then plc (ts.map fun t => pas ps t == b) else []
theorem pL_ok {b : Bool} {ps : List L} {ts : List T} (h : vpt ps ts = 0) : pL b ps ts = plc (ts.map fun t => pas ps t == b) := by unfold pL; rw [if_pos h]
theorem pL_no {b : Bool} {ps : List L} {ts : List T} (h : vpt ps ts ≠ 0) : pL b ps ts = [] := by unfold pL; rw [if_neg h]

set_option maxRecDepth 100000 in
set_option maxHeartbeats 1000000 in
theorem failing_any (a g : Option Addr) (ca cap : Nat) (ps : List L) (ts : List T) (w : World) (hp : LinesAt w a ps) (hts : TestsAt w g ts) (hm : ts.length ≤ 1000) (hml : ∀ t ∈ ts, t.inn.length ≤ 1000) :
    Calls Tryz.prog 111 #[.slice a ps.length ca, .slice g ts.length cap] w (GivesIntsE (pL false ps ts) (vpt ps ts) w) := by
  have HV := Lib.hid (fun w hp hts => validateTestsP_any a g ca cap ps ts w hp hts hm hml)
  have hb := ((Below.refl w.heap.size w).alloc (Nat.le_refl _) (.cells #[.slice a ps.length ca] 22))
  have hbx : (w.alloc (.cells #[.slice a ps.length ca] 22)).heap[w.heap.size]? = some (.cells #[.slice a ps.length ca] 22 (0, 0)) := hp_new rfl
  have x0 := hp_cell hbx (j := 0) (by rfl)
  have HBX := Lib.hid hbx
  have HB := Lib.hid hb
  clear hb hbx
  by_cases hz : vpt ps ts = 0
  · obtain ⟨h1, h2⟩ := vpt_ok hz
    obtain ⟨t8, hT⟩ := vts_ok h2
    have HW := Lib.hid (fun w0 h1' h2' h3' hts => which_failing w0 w.heap.size a ca ps h1' h2' h3' h1 g cap ts w0 (Below.refl _ _) hts hT t8 (fun t => pas ps t == false) (fun t => by show (pas ps t == false) = !pas ps t; cases pas ps t <;> rfl))
    rw [pL_ok hz, hz]
    rw [hz] at HV
    generalize plc (ts.map fun t => pas ps t == false) = X at HW ⊢
    clear h1 h2 t8 hT hz
    go_enter Tryz.func111, Tryz.ntmps111
    go_wp2_with fail
    refine (HV.out _ (hp.below HB.out (Nat.le_refl _)) (hts.below HB.out (Nat.le_refl _))).mono ?_
    rintro e w1 ⟨rfl, hB⟩
    have HB1 := Lib.hid (HB.out.trans (hB.mono (by simp)))
    have HX1 := Lib.hid (hp_below HBX.out hB (hp_lt HBX.out))
    clear hB x0
    go_wp2_with fail
    refine (HW.out _ (hp_cell HX1.out (by rfl)) (hp_lt HX1.out) (hp.below HB1.out (Nat.le_refl _)) (hts.below HB1.out (Nat.le_refl _))).mono ?_
    intro e w2 hG
    obtain ⟨a1, c1, rfl, ho, hB2⟩ := hG.wide HB1.out
    have HO := Lib.hid ho
    clear ho hG
    go_wp2_with fail
    go_ret2
    exact ⟨a1, c1, rfl, HO.out, hB2⟩
  · rw [pL_no hz]
    generalize vpt ps ts = c at HV hz
    have hz1 : (c != 0) = true := by simpa using hz
    have hz2 : (c == 0) = false := by simpa using hz
    clear hz
    go_enter Tryz.func111, Tryz.ntmps111
    go_wp2_with fail
    refine (HV.out _ (hp.below HB.out (Nat.le_refl _)) (hts.below HB.out (Nat.le_refl _))).mono ?_
    rintro e w1 ⟨rfl, hB⟩
    go_wp2_with fail
    go_ret2
    exact givesIntsE_nil (HB.out.trans (hB.mono (by simp)))

end Go.Proofs.YtikblaebfpdngaaGreat

/- Tells of check: contract. -/
set_option linter.unusedVariables false
set_option linter.unusedSimpArgs false
namespace Go.Proofs.YtikblaebfpdngaaGreat
open Go.RowKit Tinker

/-- The errors of two programs and tests. -/
def vpqt (ps qs : List L) (ts : List T) : Int := fe (vp ps) (vpt qs ts)
theorem vpqt_L (ps qs : List L) (ts : List T) : feL [vp ps, vp qs, vts ts] = vpqt ps qs ts := by
  unfold vpqt vpt fe
  simp only [feL]
  split
  · split
    · split
      · rename_i h; exact h.symm
      · rfl
    · rfl
  · rfl
theorem vpqt_ok {ps qs : List L} {ts : List T} (h : vpqt ps qs ts = 0) : vp ps = 0 ∧ vp qs = 0 ∧ vts ts = 0 := by
  unfold vpqt fe at h
  split at h
  · exact ⟨by assumption, vpt_ok h⟩
  · exact absurd h (by assumption)
theorem vpqt_mk {ps qs : List L} {ts : List T} (h1 : vp ps = 0) (h2 : vp qs = 0) (h3 : vts ts = 0) : vpqt ps qs ts = 0 := by unfold vpqt vpt fe; rw [if_pos h1, if_pos h2]; exact h3
/-- What Tells answers. -/
def tL (ps qs : List L) (ts : List T) : List Int := if vpqt ps qs ts = 0 then plc (ts.map fun t => endP ps t.inn t.out != endP qs t.inn t.out) else []
theorem tL_ok {ps qs : List L} {ts : List T} (h : vpqt ps qs ts = 0) : tL ps qs ts = plc (ts.map fun t => endP ps t.inn t.out != endP qs t.inn t.out) := by unfold tL; rw [if_pos h]
theorem tL_no {ps qs : List L} {ts : List T} (h : vpqt ps qs ts ≠ 0) : tL ps qs ts = [] := by unfold tL; rw [if_neg h]
theorem tL_swap {ps qs : List L} {ts : List T} (h : vpqt ps qs ts = 0) : vpqt qs ps ts = 0 ∧ tL qs ps ts = tL ps qs ts := by
  obtain ⟨h1, h2, h3⟩ := vpqt_ok h
  have h' := vpqt_mk h2 h1 h3
  refine ⟨h', ?_⟩
  rw [tL_ok h, tL_ok h']
  congr 1
  refine List.map_congr_left fun t _ => ?_
  rw [Bool.eq_iff_iff, bne_iff_ne, bne_iff_ne]
  exact ⟨fun h => h.symm, fun h => h.symm⟩
theorem tL_le (ps qs : List L) (ts : List T) : (tL ps qs ts).length ≤ ts.length := by
  unfold tL
  split
  · have := plcTo_length (ts.map fun t => endP ps t.inn t.out != endP qs t.inn t.out) (ts.map fun t => endP ps t.inn t.out != endP qs t.inn t.out).length
    unfold plc
    simp only [List.length_map] at this ⊢
    exact this
  · simp
theorem ints_three (w : World) (c d x : Int) (t : TypeId) : IntsAt (w.alloc (.cells #[.int .i64 c, .int .i64 d, .int .i64 x] t)) (some ⟨w.heap.size, 0, none⟩) [c, d, x] := by
  refine .inr ⟨w.heap.size, 0, rfl, by simp, fun j n hj => ?_⟩
  match j, hj with
  | 0, hj => simp at hj; subst hj; exact hp_cell (heap_new w _) (by simp)
  | 1, hj => simp at hj; subst hj; exact hp_cell (heap_new w _) (by simp)
  | 2, hj => simp at hj; subst hj; exact hp_cell (heap_new w _) (by simp)
  | j + 3, hj => simp at hj
theorem firstError3_at (b : Nat) (W : World) (c d x : Int) (h : IntsAt W (some ⟨b, 0, none⟩) [c, d, x]) : Calls Tryz.prog 79 #[.slice (some ⟨b, 0, none⟩) 3 3] W fun e w' => e = .returned (.int .i64 (feL [c, d, x])) ∧ W = w' :=
  firstError_any _ 3 [c, d, x] W h (by simp)

/-- Two boxes. -/
structure BoxPQ (P Q : Nat) (a a2 : Option Addr) (n m ca ca2 : Nat) (w W : World) : Prop where
  bp : W.heap[P]? = some (.cells #[.slice a n ca] 22 (0, 0))
  bq : W.heap[Q]? = some (.cells #[.slice a2 m ca2] 22 (0, 0))
  below : Below w.heap.size w W
section
variable {P Q : Nat} {a a2 : Option Addr} {n m ca ca2 : Nat} {w W W' : World}
theorem BoxPQ.low (h : BoxPQ P Q a a2 n m ca ca2 w W) (hb : Below W.heap.size W W') : BoxPQ P Q a a2 n m ca ca2 w W' := ⟨hp_below h.bp hb (hp_lt h.bp), hp_below h.bq hb (hp_lt h.bq), h.below.trans (hb.mono h.below.size)⟩
theorem BoxPQ.drew (h : BoxPQ P Q a a2 n m ca ca2 w W) : BoxPQ P Q a a2 n m ca ca2 w W.drew := ⟨hp_drew h.bp, hp_drew h.bq, h.below.drew⟩
theorem BoxPQ.p0 (h : BoxPQ P Q a a2 n m ca ca2 w W) : W.cell? ⟨P, 0, none⟩ = some (.slice a n ca) := hp_cell h.bp (by rfl)
theorem BoxPQ.q0 (h : BoxPQ P Q a a2 n m ca ca2 w W) : W.cell? ⟨Q, 0, none⟩ = some (.slice a2 m ca2) := hp_cell h.bq (by rfl)
end

end Go.Proofs.YtikblaebfpdngaaGreat
