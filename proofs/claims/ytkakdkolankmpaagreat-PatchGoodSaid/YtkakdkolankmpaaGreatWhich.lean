/- which, with each of its three functions; Passing, Failing, Tells of check: contracts. -/
import Derived.Test.YtkakdkolankmpaaGreatChkP
import Derived.Test.YtkakdkolankmpaaGreatRSl
set_option linter.unusedVariables false
set_option linter.unusedSimpArgs false
namespace Go.Proofs.YtkakdkolankmpaaGreat
open Go.RowKit Tinker

/-- What has been asked of the first k. -/
def heldTo (f : T → Bool) (ts : List T) : Nat → List Bool
  | 0 => List.replicate ts.length false
  | k + 1 => match ts[k]? with
    | none => heldTo f ts k
    | some t => (heldTo f ts k).set k (f t)
theorem heldTo_length (f : T → Bool) (ts : List T) : ∀ k, (heldTo f ts k).length = ts.length
  | 0 => by simp [heldTo]
  | k + 1 => by
    rw [heldTo]
    split
    · exact heldTo_length f ts k
    · rw [List.length_set]; exact heldTo_length f ts k
theorem heldTo_succ {f : T → Bool} {ts : List T} {k : Nat} {t : T} (h : ts[k]? = some t) : heldTo f ts (k + 1) = (heldTo f ts k).set k (f t) := by rw [heldTo]; simp only [h]
theorem heldTo_get (f : T → Bool) (ts : List T) : ∀ k j, j < k → k ≤ ts.length → (heldTo f ts k)[j]? = (ts.map f)[j]?
  | 0, j, h, _ => by omega
  | k + 1, j, h, hk => by
    obtain ⟨t, ht⟩ := get_of_lt (show k < ts.length by omega)
    rw [heldTo_succ ht, List.getElem?_set, heldTo_length]
    by_cases e : k = j
    · subst e; rw [if_pos rfl, if_pos (by omega), List.getElem?_map, ht]; rfl
    · rw [if_neg e]; exact heldTo_get f ts k j (by omega) (by omega)
theorem heldTo_whole (f : T → Bool) (ts : List T) : heldTo f ts ts.length = ts.map f := by
  refine List.ext_getElem? fun j => ?_
  rcases Nat.lt_or_ge j ts.length with h | h
  · exact heldTo_get f ts _ j h (Nat.le_refl _)
  · rw [List.getElem?_eq_none (by rw [heldTo_length]; omega), List.getElem?_eq_none (by simpa using h)]

/-- A block of bools. -/
structure BlkB (M : Nat) (bs : List Bool) (w W : World) : Prop where
  bm : W.heap[M]? = some (.cells (bv bs) 4 (0, 0))
  below : Below w.heap.size w W
theorem BlkB.low {M : Nat} {bs : List Bool} {w W W' : World} (h : BlkB M bs w W) (hb : Below W.heap.size W W') : BlkB M bs w W' := ⟨hp_below h.bm hb (hp_lt h.bm), h.below.trans (hb.mono h.below.size)⟩
theorem BlkB.drew {M : Nat} {bs : List Bool} {w W : World} (h : BlkB M bs w W) : BlkB M bs w W.drew := ⟨hp_drew h.bm, h.below.drew⟩
theorem BlkB.put {M : Nat} {bs : List Bool} {w W : World} (h : BlkB M bs w W) (hM : w.heap.size ≤ M) (j : Nat) (y : Bool) : BlkB M (bs.set j y) w (W.setCell ⟨M, j, none⟩ (.bool y)) :=
  ⟨by rw [← bv_set]; exact hp_put h.bm _ _, h.below.setCell (p := ⟨M, _, none⟩) hM _⟩
theorem BlkB.bools {M : Nat} {bs : List Bool} {w W : World} (h : BlkB M bs w W) : BoolsAt W M 0 bs := fun j n hj => by
  rw [Nat.zero_add]
  have := hp_cell h.bm (bv_get bs j (List.getElem?_eq_some_iff.1 hj).1)
  rwa [getD_of_get hj] at this

set_option maxRecDepth 100000 in
set_option maxHeartbeats 1000000 in
theorem clos_failing (w0 : World) (P : Nat) (a : Option Addr) (ca : Nat) (ps : List L) (hP : w0.cell? ⟨P, 0, none⟩ = some (.slice a ps.length ca)) (hPl : P < w0.heap.size) (hp : LinesAt w0 a ps) (hv : vp ps = 0) (b : Option Addr) (cb : Nat) (t : T) (W : World) (hB : Below w0.heap.size w0 W) (ht : isT t = true) (hi : IntsAt W b t.inn) :
    Calls Tryz.prog 98 #[.agg #[.slice b t.inn.length cb, .int .i64 t.out, .int .i64 t.want], .pointer (some ⟨P, 0, none⟩)] W fun e w' => e = .returned (.bool ((fun t => !pas ps t) t)) ∧ Below W.heap.size W w' := by
  have HI := Lib.hid (boxT_new (a := b) (n := t.inn.length) (ca := cb) (out := t.out) (want := t.want) W)
  have hc := (HI.out.below.cell (p := ⟨P, 0, none⟩) (by show P < _; have := hB.size; omega)).trans ((hB.cell (p := ⟨P, 0, none⟩) hPl).trans hP)
  have HP := Lib.hid (fun w hp hs => passes_any a b ca cb ps t w hp hs hv ht)
  have x0 := HI.out.c0
  have x1 := HI.out.c1
  have x2 := HI.out.c2
  have HA := Lib.hid ((hp.below hB (Nat.le_refl _)).below HI.out.below (Nat.le_refl _))
  have HS := Lib.hid (hi.below HI.out.below (Nat.le_refl _))
  dsimp only
  generalize pas ps t = V at HP
  clear hi hp hP ht hv
  go_enter Tryz.func98, Tryz.ntmps98
  go_wp2_with fail
  refine (HP.out _ HA.out HS.out).mono ?_
  rintro e w1 ⟨rfl, hB1⟩
  go_wp2_with fail
  go_ret
  exact ⟨rfl, (HI.out.low hB1).below⟩

set_option maxRecDepth 100000 in
set_option maxHeartbeats 1000000 in
theorem which_failing (w0 : World) (P : Nat) (a : Option Addr) (ca : Nat) (ps : List L) (hP : w0.cell? ⟨P, 0, none⟩ = some (.slice a ps.length ca)) (hPl : P < w0.heap.size) (hp : LinesAt w0 a ps) (hv : vp ps = 0) (g : Option Addr) (cap : Nat) (ts : List T) (w : World) (hB0 : Below w0.heap.size w0 w) (hts : TestsAt w g ts) (hT : ∀ t ∈ ts, isT t = true) (h8 : ts.length ≤ 8) (F : T → Bool) (hF : ∀ t, F t = (fun t => !pas ps t) t) :
    Calls Tryz.prog 97 #[.slice g ts.length cap, .func (.func 98) #[] #[.pointer (some ⟨P, 0, none⟩)]] w (GivesInts (plc (ts.map F)) w) := by
  have hmk := mkBools ts.length h8
  have HF := Lib.hid hF
  clear hF
  have HCL := Lib.hid (fun (W : World) (t : T) b cb (hb : Below w.heap.size w W) ht hi => show Calls Tryz.prog 98 #[.agg #[.slice b t.inn.length cb, .int .i64 t.out, .int .i64 t.want], .pointer (some ⟨P, 0, none⟩)] W (fun e w' => e = .returned (.bool (F t)) ∧ Below W.heap.size W w') by rw [HF.out]; exact clos_failing w0 P a ca ps hP hPl hp hv b cb t W (hB0.trans (hb.mono hB0.size)) ht hi)
  go_enter Tryz.func97, Tryz.ntmps97
  go_wp2_with fail
  go_loopw [13] (fun s13 wr => ∃ k : Nat, k ≤ ts.length ∧ s13 = .int .i64 k ∧ BlkB w.heap.size (heldTo F ts k) w wr) (fun s13 _ => ts.length - (intOf s13).toNat)
  case atStart => exact ⟨0, Nat.zero_le _, rfl, hp_new rfl, (Below.refl _ _).alloc (Nat.le_refl _) _⟩
  case round =>
    obtain ⟨k, hk, rfl, hI⟩ := hrel
    by_cases hlt : k < ts.length
    · obtain ⟨b, off, t, a', c, rfl, hlb, ht, c0, c1, c2, hi⟩ := (hts.below hI.below (Nat.le_refl _)).at_ hlt
      have hbel := ((Below.refl _ _).alloc (Nat.le_refl _) (.cells #[.slice a' t.inn.length c, .int .i64 t.out, .int .i64 t.want] 76) : Below wr.heap.size wr _)
      have hI2 := hI.low hbel
      have hnew := boxT_new (a := a') (n := t.inn.length) (ca := c) (out := t.out) (want := t.want) wr
      have x0 := hnew.c0
      have x1 := hnew.c1
      have x2 := hnew.c2
      have HS := Lib.hid (HCL.out _ t a' c hI2.below (hT t (mem_of_get ht)) (hi.below hbel (Nat.le_refl _)))
      have HT := Lib.hid ht
      have HI := Lib.hid hI2
      clear ht hi hnew hI hI2 hbel
      go_wp2_with fail
      refine HS.out.mono ?_
      rintro e w1 ⟨rfl, hB1⟩
      have hI3 := HI.out.low hB1
      have m1 := hp_cell hI3.bm (bv_get (heldTo F ts k) k (by rw [heldTo_length]; omega))
      have m2 := hp_free hI3.bm k
      have HI3 := Lib.hid hI3
      clear hI3 hB1 HS HI x0 x1 x2
      go_wp2_with fail
      go_roundw
      case rel => exact ⟨k + 1, by omega, by go_num, by rw [heldTo_succ HT.out]; exact HI3.out.put (Nat.le_refl _) _ _⟩
      case measure => simp [intOf]; omega
    · obtain rfl : k = ts.length := by omega
      have HB := Lib.hid hI.below
      rw [heldTo_whole] at hI
      have HP := Lib.hid (places_any w.heap.size 0 (ts.map F).length (ts.map F) wr hI.bools (hp_lt hI.bm) (by simp; omega))
      rw [List.length_map] at HP
      clear hI
      go_wp2_with fail
      refine HP.out.mono ?_
      intro e w1 hG
      obtain ⟨a1, c1, rfl, ho, hB1⟩ := hG.wide HB.out
      have HO := Lib.hid ho
      clear ho hG
      go_wp2_with fail
      go_ret
      exact ⟨a1, c1, rfl, HO.out, hB1⟩

/-- What Passing (true) and Failing (false) answer. -/
def pL (b : Bool) (ps : List L) (ts : List T) : List Int := if vpt ps ts = 0 then plc (ts.map fun t => pas ps t == b) else []
theorem pL_ok {b : Bool} {ps : List L} {ts : List T} (h : vpt ps ts = 0) : pL b ps ts = plc (ts.map fun t => pas ps t == b) := by unfold pL; rw [if_pos h]
theorem pL_no {b : Bool} {ps : List L} {ts : List T} (h : vpt ps ts ≠ 0) : pL b ps ts = [] := by unfold pL; rw [if_neg h]

set_option maxRecDepth 100000 in
set_option maxHeartbeats 1000000 in
theorem failing_any (a g : Option Addr) (ca cap : Nat) (ps : List L) (ts : List T) (w : World) (hp : LinesAt w a ps) (hts : TestsAt w g ts) (hm : ts.length ≤ 1000) (hml : ∀ t ∈ ts, t.inn.length ≤ 1000) :
    Calls Tryz.prog 28 #[.slice a ps.length ca, .slice g ts.length cap] w (GivesIntsE (pL false ps ts) (vpt ps ts) w) := by
  have HV := Lib.hid (fun w hp hts => validateTestsP_any a g ca cap ps ts w hp hts hm hml)
  have hb := ((Below.refl w.heap.size w).alloc (Nat.le_refl _) (.cells #[.slice a ps.length ca] 22))
  have hbx : (w.alloc (.cells #[.slice a ps.length ca] 22)).heap[w.heap.size]? = some (.cells #[.slice a ps.length ca] 22 (0, 0)) := hp_new rfl
  have x0 := hp_cell hbx (j := 0) (by rfl)
  have HBX := Lib.hid hbx
  have HB := Lib.hid hb
  clear hb hbx
  by_cases hz : vpt ps ts = 0
  · obtain ⟨h1, h2⟩ := vpt_ok hz
    obtain ⟨t8, hT⟩ := vts_ok h2
    have HW := Lib.hid (fun w0 h1' h2' h3' hts => which_failing w0 w.heap.size a ca ps h1' h2' h3' h1 g cap ts w0 (Below.refl _ _) hts hT t8 (fun t => pas ps t == false) (fun t => by show (pas ps t == false) = !pas ps t; cases pas ps t <;> rfl))
    rw [pL_ok hz, hz]
    rw [hz] at HV
    generalize plc (ts.map fun t => pas ps t == false) = X at HW ⊢
    clear h1 h2 t8 hT hz
    go_enter Tryz.func28, Tryz.ntmps28
    go_wp2_with fail
    refine (HV.out _ (hp.below HB.out (Nat.le_refl _)) (hts.below HB.out (Nat.le_refl _))).mono ?_
    rintro e w1 ⟨rfl, hB⟩
    have HB1 := Lib.hid (HB.out.trans (hB.mono (by simp)))
    have HX1 := Lib.hid (hp_below HBX.out hB (hp_lt HBX.out))
    clear hB x0
    go_wp2_with fail
    refine (HW.out _ (hp_cell HX1.out (by rfl)) (hp_lt HX1.out) (hp.below HB1.out (Nat.le_refl _)) (hts.below HB1.out (Nat.le_refl _))).mono ?_
    intro e w2 hG
    obtain ⟨a1, c1, rfl, ho, hB2⟩ := hG.wide HB1.out
    have HO := Lib.hid ho
    clear ho hG
    go_wp2_with fail
    go_ret2
    exact ⟨a1, c1, rfl, HO.out, hB2⟩
  · rw [pL_no hz]
    generalize vpt ps ts = c at HV hz
    have hz1 : (c != 0) = true := by simpa using hz
    have hz2 : (c == 0) = false := by simpa using hz
    clear hz
    go_enter Tryz.func28, Tryz.ntmps28
    go_wp2_with fail
    refine (HV.out _ (hp.below HB.out (Nat.le_refl _)) (hts.below HB.out (Nat.le_refl _))).mono ?_
    rintro e w1 ⟨rfl, hB⟩
    go_wp2_with fail
    go_ret2
    exact givesIntsE_nil (HB.out.trans (hB.mono (by simp)))

end Go.Proofs.YtkakdkolankmpaaGreat
