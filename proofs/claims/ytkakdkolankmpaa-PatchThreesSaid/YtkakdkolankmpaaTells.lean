/- Tells of check: contract. -/
import Derived.Test.YtkakdkolankmpaaWhich
set_option linter.unusedVariables false
set_option linter.unusedSimpArgs false
namespace Go.Proofs.Ytkakdkolankmpaa
open Go.RowKit Tinker

set_option maxRecDepth 100000 in
set_option maxHeartbeats 2000000 in
theorem clos_tells (w0 : World) (P Q : Nat) (a a2 : Option Addr) (ca ca2 : Nat) (ps qs : List L) (hP : w0.cell? ⟨P, 0, none⟩ = some (.slice a ps.length ca)) (hPl : P < w0.heap.size) (hQ : w0.cell? ⟨Q, 0, none⟩ = some (.slice a2 qs.length ca2)) (hQl : Q < w0.heap.size) (hp : LinesAt w0 a ps) (hq : LinesAt w0 a2 qs) (hv : vp ps = 0) (hv2 : vp qs = 0) (b : Option Addr) (cb : Nat) (t : T) (W : World) (hB : Below w0.heap.size w0 W) (ht : isT t = true) (hi : IntsAt W b t.inn) :
    Calls Try.prog 87 #[.agg #[.slice b t.inn.length cb, .int .i64 t.out, .int .i64 t.want], .pointer (some ⟨P, 0, none⟩), .pointer (some ⟨Q, 0, none⟩)] W fun e w' => e = .returned (.bool ((fun t => endP ps t.inn t.out != endP qs t.inn t.out) t)) ∧ Below W.heap.size W w' := by
  obtain ⟨inn, out, want⟩ := t
  have HI := Lib.hid (boxT_new (a := b) (n := inn.length) (ca := cb) (out := out) (want := want) W)
  have hc := Lib.hid ((HI.out.below.cell (p := ⟨P, 0, none⟩) (by show P < _; have := hB.size; omega)).trans ((hB.cell (p := ⟨P, 0, none⟩) hPl).trans hP))
  have hd := Lib.hid ((HI.out.below.cell (p := ⟨Q, 0, none⟩) (by show Q < _; have := hB.size; omega)).trans ((hB.cell (p := ⟨Q, 0, none⟩) hQl).trans hQ))
  obtain ⟨h1, h2, h3⟩ := isT_ok ht
  have HP := Lib.hid (fun w hp hs => end_any a b ca cb ps inn out w hp hs (by unfold vr fe; rw [if_pos hv]; exact h1) h2)
  have HQ := Lib.hid (fun w hp hs => end_any a2 b ca2 cb qs inn out w hp hs (by unfold vr fe; rw [if_pos hv2]; exact h1) h2)
  have hx := HI.out
  have hlP : P < W.heap.size := by have := hB.size; omega
  have hlQ : Q < W.heap.size := by have := hB.size; omega
  have HA := Lib.hid (hp.below hB (Nat.le_refl _))
  have HQ2 := Lib.hid (hq.below hB (Nat.le_refl _))
  have HS := Lib.hid hi
  show Calls Try.prog 87 #[.agg #[.slice b inn.length cb, .int .i64 out, .int .i64 want], .pointer (some ⟨P, 0, none⟩), .pointer (some ⟨Q, 0, none⟩)] W fun e w' => e = .returned (.bool (endP ps inn out != endP qs inn out)) ∧ Below W.heap.size W w'
  generalize endP ps inn out = V at HP
  generalize endP qs inn out = V2 at HQ
  clear hi hp hq hP hQ ht hv hv2 h1 h2 h3 hPl hQl
  have x0 := hx.c0
  have x1 := hx.c1
  have d0 := hc.out
  have d1 := hd.out
  have hz : W.heap.size < (W.alloc (.cells #[.slice b inn.length cb, .int .i64 out, .int .i64 want] 66)).heap.size := by simp
  replace hx := hx.drew
  go_enter Try.func87, Try.ntmps87
  go_wp2_with fail
  go_region_held3 (fun w' => w'.cell? ⟨W.heap.size, 0, none⟩ = some (.slice b inn.length cb) ∧ w'.cell? ⟨W.heap.size, 1, none⟩ = some (.int .i64 out) ∧ w'.cell? ⟨P, 0, none⟩ = some (.slice a ps.length ca) ∧ w'.cell? ⟨Q, 0, none⟩ = some (.slice a2 qs.length ca2)) (first | exact ⟨x0, x1, d0, d1⟩ | go_keep) (first | (go_at_call_of 77 (Value.slice a ps.length ca); refine (HP.out _ ?_ ?_).mono ?_; exact HA.out.below hx.below (Nat.le_refl _); exact HS.out.below hx.below (Nat.le_refl _); rintro e wa ⟨rfl, hBa⟩; replace d0 := (hBa.cell (p := ⟨P, 0, none⟩) (Nat.lt_of_lt_of_le hlP hx.below.size)).trans d0; replace d1 := (hBa.cell (p := ⟨Q, 0, none⟩) (Nat.lt_of_lt_of_le hlQ hx.below.size)).trans d1; replace hx := hx.low hBa; clear hBa x0 x1; have x0 := hx.c0; have x1 := hx.c1) | (go_at_call_of 77 (Value.slice a2 qs.length ca2); refine (HQ.out _ ?_ ?_).mono ?_; exact HQ2.out.below hx.below (Nat.le_refl _); exact HS.out.below hx.below (Nat.le_refl _); rintro e wa ⟨rfl, hBa⟩; replace d0 := (hBa.cell (p := ⟨P, 0, none⟩) (Nat.lt_of_lt_of_le hlP hx.below.size)).trans d0; replace d1 := (hBa.cell (p := ⟨Q, 0, none⟩) (Nat.lt_of_lt_of_le hlQ hx.below.size)).trans d1; replace hx := hx.low hBa; clear hBa x0 x1; have x0 := hx.c0; have x1 := hx.c1))
  all_goals go_wp2_with fail
  all_goals go_ret
  all_goals exact ⟨rfl, hx.below⟩

set_option maxRecDepth 100000 in
set_option maxHeartbeats 1000000 in
theorem which_tells (w0 : World) (P Q : Nat) (a a2 : Option Addr) (ca ca2 : Nat) (ps qs : List L) (hP : w0.cell? ⟨P, 0, none⟩ = some (.slice a ps.length ca)) (hPl : P < w0.heap.size) (hQ : w0.cell? ⟨Q, 0, none⟩ = some (.slice a2 qs.length ca2)) (hQl : Q < w0.heap.size) (hp : LinesAt w0 a ps) (hq : LinesAt w0 a2 qs) (hv : vp ps = 0) (hv2 : vp qs = 0) (g : Option Addr) (cap : Nat) (ts : List T) (w : World) (hB0 : Below w0.heap.size w0 w) (hts : TestsAt w g ts) (hT : ∀ t ∈ ts, isT t = true) (h8 : ts.length ≤ 8) (F : T → Bool) (hF : ∀ t, F t = (fun t => endP ps t.inn t.out != endP qs t.inn t.out) t) :
    Calls Try.prog 86 #[.slice g ts.length cap, .func (.func 87) #[] #[.pointer (some ⟨P, 0, none⟩), .pointer (some ⟨Q, 0, none⟩)]] w (GivesInts (plc (ts.map F)) w) := by
  have hmk := mkBools ts.length h8
  have HF := Lib.hid hF
  clear hF
  have HCL := Lib.hid (fun (W : World) (t : T) b cb (hb : Below w.heap.size w W) ht hi => show Calls Try.prog 87 #[.agg #[.slice b t.inn.length cb, .int .i64 t.out, .int .i64 t.want], .pointer (some ⟨P, 0, none⟩), .pointer (some ⟨Q, 0, none⟩)] W (fun e w' => e = .returned (.bool (F t)) ∧ Below W.heap.size W w') by rw [HF.out]; exact clos_tells w0 P Q a a2 ca ca2 ps qs hP hPl hQ hQl hp hq hv hv2 b cb t W (hB0.trans (hb.mono hB0.size)) ht hi)
  go_enter Try.func86, Try.ntmps86
  go_wp2_with fail
  go_loopw [13] (fun s13 wr => ∃ k : Nat, k ≤ ts.length ∧ s13 = .int .i64 k ∧ BlkB w.heap.size (heldTo F ts k) w wr) (fun s13 _ => ts.length - (intOf s13).toNat)
  case atStart => exact ⟨0, Nat.zero_le _, rfl, hp_new rfl, (Below.refl _ _).alloc (Nat.le_refl _) _⟩
  case round =>
    obtain ⟨k, hk, rfl, hI⟩ := hrel
    by_cases hlt : k < ts.length
    · obtain ⟨b, off, t, a', c, rfl, hlb, ht, c0, c1, c2, hi⟩ := (hts.below hI.below (Nat.le_refl _)).at_ hlt
      have hbel := ((Below.refl _ _).alloc (Nat.le_refl _) (.cells #[.slice a' t.inn.length c, .int .i64 t.out, .int .i64 t.want] 66) : Below wr.heap.size wr _)
      have hI2 := hI.low hbel
      have hnew := boxT_new (a := a') (n := t.inn.length) (ca := c) (out := t.out) (want := t.want) wr
      have x0 := hnew.c0
      have x1 := hnew.c1
      have x2 := hnew.c2
      have HS := Lib.hid (HCL.out _ t a' c hI2.below (hT t (mem_of_get ht)) (hi.below hbel (Nat.le_refl _)))
      have HT := Lib.hid ht
      have HI := Lib.hid hI2
      clear ht hi hnew hI hI2 hbel
      go_wp2_with fail
      refine HS.out.mono ?_
      rintro e w1 ⟨rfl, hB1⟩
      have hI3 := HI.out.low hB1
      have m1 := hp_cell hI3.bm (bv_get (heldTo F ts k) k (by rw [heldTo_length]; omega))
      have m2 := hp_free hI3.bm k
      have HI3 := Lib.hid hI3
      clear hI3 hB1 HS HI x0 x1 x2
      go_wp2_with fail
      go_roundw
      case rel => exact ⟨k + 1, by omega, by go_num, by rw [heldTo_succ HT.out]; exact HI3.out.put (Nat.le_refl _) _ _⟩
      case measure => simp [intOf]; omega
    · obtain rfl : k = ts.length := by omega
      have HB := Lib.hid hI.below
      rw [heldTo_whole] at hI
      have HP := Lib.hid (places_any w.heap.size 0 (ts.map F).length (ts.map F) wr hI.bools (hp_lt hI.bm) (by simp; omega))
      rw [List.length_map] at HP
      clear hI
      go_wp2_with fail
      refine HP.out.mono ?_
      intro e w1 hG
      obtain ⟨a1, c1, rfl, ho, hB1⟩ := hG.wide HB.out
      have HO := Lib.hid ho
      clear ho hG
      go_wp2_with fail
      go_ret
      exact ⟨a1, c1, rfl, HO.out, hB1⟩

/-- The errors of two programs and tests. -/
def vpqt (ps qs : List L) (ts : List T) : Int := fe (vp ps) (vpt qs ts)
theorem vpqt_L (ps qs : List L) (ts : List T) : feL [vp ps, vp qs, vts ts] = vpqt ps qs ts := by
  unfold vpqt vpt fe
  simp only [feL]
  split
  · split
    · split
      · rename_i h; exact h.symm
      · rfl
    · rfl
  · rfl
theorem vpqt_ok {ps qs : List L} {ts : List T} (h : vpqt ps qs ts = 0) : vp ps = 0 ∧ vp qs = 0 ∧ vts ts = 0 := by
  unfold vpqt fe at h
  split at h
  · exact ⟨by assumption, vpt_ok h⟩
  · exact absurd h (by assumption)
theorem vpqt_mk {ps qs : List L} {ts : List T} (h1 : vp ps = 0) (h2 : vp qs = 0) (h3 : vts ts = 0) : vpqt ps qs ts = 0 := by unfold vpqt vpt fe; rw [if_pos h1, if_pos h2]; exact h3
/-- What Tells answers. -/
def tL (ps qs : List L) (ts : List T) : List Int := if vpqt ps qs ts = 0 then plc (ts.map fun t => endP ps t.inn t.out != endP qs t.inn t.out) else []
theorem tL_ok {ps qs : List L} {ts : List T} (h : vpqt ps qs ts = 0) : tL ps qs ts = plc (ts.map fun t => endP ps t.inn t.out != endP qs t.inn t.out) := by unfold tL; rw [if_pos h]
theorem tL_no {ps qs : List L} {ts : List T} (h : vpqt ps qs ts ≠ 0) : tL ps qs ts = [] := by unfold tL; rw [if_neg h]
theorem tL_swap {ps qs : List L} {ts : List T} (h : vpqt ps qs ts = 0) : vpqt qs ps ts = 0 ∧ tL qs ps ts = tL ps qs ts := by
  obtain ⟨h1, h2, h3⟩ := vpqt_ok h
  have h' := vpqt_mk h2 h1 h3
  refine ⟨h', ?_⟩
  rw [tL_ok h, tL_ok h']
  congr 1
  refine List.map_congr_left fun t _ => ?_
  rw [Bool.eq_iff_iff, bne_iff_ne, bne_iff_ne]
  exact ⟨fun h => h.symm, fun h => h.symm⟩
theorem tL_le (ps qs : List L) (ts : List T) : (tL ps qs ts).length ≤ ts.length := by
  unfold tL
  split
  · have := plcTo_length (ts.map fun t => endP ps t.inn t.out != endP qs t.inn t.out) (ts.map fun t => endP ps t.inn t.out != endP qs t.inn t.out).length
    unfold plc
    simp only [List.length_map] at this ⊢
    exact this
  · simp
theorem ints_three (w : World) (c d x : Int) (t : TypeId) : IntsAt (w.alloc (.cells #[.int .i64 c, .int .i64 d, .int .i64 x] t)) (some ⟨w.heap.size, 0, none⟩) [c, d, x] := by
  refine .inr ⟨w.heap.size, 0, rfl, by simp, fun j n hj => ?_⟩
  match j, hj with
  | 0, hj => simp at hj; subst hj; exact hp_cell (heap_new w _) (by simp)
  | 1, hj => simp at hj; subst hj; exact hp_cell (heap_new w _) (by simp)
  | 2, hj => simp at hj; subst hj; exact hp_cell (heap_new w _) (by simp)
  | j + 3, hj => simp at hj
theorem firstError3_at (b : Nat) (W : World) (c d x : Int) (h : IntsAt W (some ⟨b, 0, none⟩) [c, d, x]) : Calls Try.prog 58 #[.slice (some ⟨b, 0, none⟩) 3 3] W fun e w' => e = .returned (.int .i64 (feL [c, d, x])) ∧ W = w' :=
  firstError_any _ 3 [c, d, x] W h (by simp)

/-- Two boxes. -/
structure BoxPQ (P Q : Nat) (a a2 : Option Addr) (n m ca ca2 : Nat) (w W : World) : Prop where
  bp : W.heap[P]? = some (.cells #[.slice a n ca] 32 (0, 0))
  bq : W.heap[Q]? = some (.cells #[.slice a2 m ca2] 32 (0, 0))
  below : Below w.heap.size w W
section
variable {P Q : Nat} {a a2 : Option Addr} {n m ca ca2 : Nat} {w W W' : World}
theorem BoxPQ.low (h : BoxPQ P Q a a2 n m ca ca2 w W) (hb : Below W.heap.size W W') : BoxPQ P Q a a2 n m ca ca2 w W' := ⟨hp_below h.bp hb (hp_lt h.bp), hp_below h.bq hb (hp_lt h.bq), h.below.trans (hb.mono h.below.size)⟩
theorem BoxPQ.drew (h : BoxPQ P Q a a2 n m ca ca2 w W) : BoxPQ P Q a a2 n m ca ca2 w W.drew := ⟨hp_drew h.bp, hp_drew h.bq, h.below.drew⟩
theorem BoxPQ.p0 (h : BoxPQ P Q a a2 n m ca ca2 w W) : W.cell? ⟨P, 0, none⟩ = some (.slice a n ca) := hp_cell h.bp (by rfl)
theorem BoxPQ.q0 (h : BoxPQ P Q a a2 n m ca ca2 w W) : W.cell? ⟨Q, 0, none⟩ = some (.slice a2 m ca2) := hp_cell h.bq (by rfl)
end

set_option maxRecDepth 100000 in
set_option maxHeartbeats 2000000 in
theorem tells_any (a a2 g : Option Addr) (ca ca2 cap : Nat) (ps qs : List L) (ts : List T) (w : World) (hp : LinesAt w a ps) (hq : LinesAt w a2 qs) (hts : TestsAt w g ts) (hm : ts.length ≤ 1000) (hml : ∀ t ∈ ts, t.inn.length ≤ 1000) :
    Calls Try.prog 37 #[.slice a ps.length ca, .slice a2 qs.length ca2, .slice g ts.length cap] w (GivesIntsE (tL ps qs ts) (vpqt ps qs ts) w) := by
  have H1 := Lib.hid (fun w hp => validate_any a ca ps w hp)
  have H2 := Lib.hid (fun w hq => validate_any a2 ca2 qs w hq)
  have H3 := Lib.hid (fun w hts => validateTests_C g cap ts w hts hm hml)
  have HE := Lib.hid (vpqt_L ps qs ts)
  have hI : BoxPQ w.heap.size (w.heap.size + 1) a a2 ps.length qs.length ca ca2 w ((w.alloc (.cells #[.slice a ps.length ca] 32)).alloc (.cells #[.slice a2 qs.length ca2] 32)) := ⟨hp_alloc (hp_new rfl), hp_new (by simp), ((Below.refl _ _).alloc (Nat.le_refl _) _).alloc (by simp) _⟩
  have x0 := hI.p0
  have x1 := hI.q0
  have HW := Lib.hid (fun (hz : vpqt ps qs ts = 0) (w0 : World) h1' h2' h3' h4' h5' h6' hts' => which_tells w0 w.heap.size (w.heap.size + 1) a a2 ca ca2 ps qs h1' h2' h3' h4' h5' h6' (vpqt_ok hz).1 (vpqt_ok hz).2.1 g cap ts w0 (Below.refl _ _) hts' (vts_ok (vpqt_ok hz).2.2).2 (vts_ok (vpqt_ok hz).2.2).1 (fun t => endP ps t.inn t.out != endP qs t.inn t.out) (fun _ => rfl))
  have HTL := Lib.hid (show vpqt ps qs ts = 0 → tL ps qs ts = plc (ts.map fun t => endP ps t.inn t.out != endP qs t.inn t.out) from fun h => tL_ok h)
  have HTN := Lib.hid (show vpqt ps qs ts ≠ 0 → tL ps qs ts = [] from fun h => tL_no h)
  generalize vp ps = c1 at H1 HE
  generalize vp qs = c2 at H2 HE
  generalize vts ts = c3 at H3 HE
  generalize plc (ts.map fun t => endP ps t.inn t.out != endP qs t.inn t.out) = X at HW HTL
  go_enter Try.func37, Try.ntmps37
  go_upto_region 1 with fail
  go_cut [8] (fun s8 wx => s8 = .int .i64 (feL [c1, c2, c3]) ∧ BoxPQ w.heap.size (w.heap.size + 1) a a2 ps.length qs.length ca ca2 w wx)
  case first =>
    clear HW
    replace hI := hI.drew
    go_region_with (first | (go_at_call_of 59 (Value.slice a ps.length ca); refine (H1.out _ ?_).mono ?_; exact hp.below hI.below (Nat.le_refl _); rintro e wa ⟨rfl, hBa⟩; replace hI := hI.low hBa; clear hBa x0 x1; have x0 := hI.p0; have x1 := hI.q0) | (go_at_call_of 59 (Value.slice a2 qs.length ca2); refine (H2.out _ ?_).mono ?_; exact hq.below hI.below (Nat.le_refl _); rintro e wa ⟨rfl, hBa⟩; replace hI := hI.low hBa; clear hBa x0 x1; have x0 := hI.p0; have x1 := hI.q0) | (go_at_call 85; refine (H3.out _ ?_).mono ?_; exact hts.below hI.below (Nat.le_refl _); rintro e wa ⟨rfl, hBa⟩; replace hI := hI.low hBa; clear hBa x0 x1; have x0 := hI.p0; have x1 := hI.q0) | (go_at_call 58; refine (firstError3_at _ _ _ _ _ (ints_three _ _ _ _ _)).mono ?_; rintro e wb ⟨rfl, rfl⟩))
    all_goals go_wp2_with fail
    all_goals go_meet
    all_goals refine ⟨rfl, ?_⟩
    all_goals exact hI.low ((Below.refl _ _).alloc (Nat.le_refl _) _)
  case rest =>
    clear hI x0 x1
    obtain ⟨rfl, hI⟩ := hcut
    rw [HE.out]
    clear HE
    by_cases hz : vpqt ps qs ts = 0
    · have HT := Lib.hid (HTL.out hz)
      have HW2 := Lib.hid (HW.out hz)
      have HZ := Lib.hid hz
      have e1 : (vpqt ps qs ts != 0) = false := by simpa using hz
      have e2 : (vpqt ps qs ts == 0) = true := by simpa using hz
      clear hz HTL HTN HW
      have HI := Lib.hid hI
      clear hI
      go_wp2_with fail
      refine (HW2.out _ HI.out.p0 (hp_lt HI.out.bp) HI.out.q0 (hp_lt HI.out.bq) (hp.below HI.out.below (Nat.le_refl _)) (hq.below HI.out.below (Nat.le_refl _)) (hts.below HI.out.below (Nat.le_refl _))).mono ?_
      intro e w2 hG
      obtain ⟨a1, k1, rfl, ho, hB2⟩ := hG.wide HI.out.below
      have HO := Lib.hid ho
      clear ho hG
      go_wp2_with fail
      go_ret2
      rw [HT.out, HZ.out]
      exact ⟨a1, k1, rfl, HO.out, hB2⟩
    · have HT := Lib.hid (HTN.out hz)
      clear HTL HTN HW
      have hz1 : (vpqt ps qs ts != 0) = true := by simpa using hz
      have hz2 : (vpqt ps qs ts == 0) = false := by simpa using hz
      clear hz
      have HI := Lib.hid hI
      clear hI
      go_wp2_with fail
      go_ret2
      rw [HT.out]
      exact givesIntsE_nil HI.out.below

end Go.Proofs.Ytkakdkolankmpaa
