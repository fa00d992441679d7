/- The smallest and the greatest number: Extremes of package check: contract. -/
import Derived.Test.YtdcoebeffbkpnaaBadC
import Derived.Test.YtdcoebeffbkpnaaRxt
import Derived.Sort.CutIn
set_option linter.unusedVariables false
set_option linter.unusedSimpArgs false
namespace Go.Proofs.Ytdcoebeffbkpnaa
open Go.RowKit Go.Shelf Tinker
attribute [local go_sem] Oper.semAt_some

set_option maxRecDepth 100000 in
set_option maxHeartbeats 4000000 in
theorem extremes_ok (a : Option Addr) (ca lb lf hb hf c1 c2 : Nat) (ps : List L) (lo hi : List Int) (out mn mx : Int) (w : World) (hz : vpc ps lo hi out mn mx = 0) (hv : vp ps = 0) (hp : LinesAt w a ps) (hc : OkC lo hi) (ho : isReg out = true) (hlb : lb < w.heap.size) (hhb : hb < w.heap.size)
    (hl : ∀ j n, lo[j]? = some n → w.cell? ⟨lb, lf + j, none⟩ = some (.int .i64 n)) (hh : ∀ j n, hi[j]? = some n → w.cell? ⟨hb, hf + j, none⟩ = some (.int .i64 n)) (hN : (allS lo hi).length ≤ 400) :
    Calls Try.prog 16 #[.slice a ps.length ca, .agg #[.slice (some ⟨lb, lf, none⟩) 4 c1, .slice (some ⟨hb, hf, none⟩) 4 c2, .int .i64 out, .int .i64 mn, .int .i64 mx]] w fun e w' => e = .returned (.tuple #[.int .i64 (xtl ps out (allS lo hi)).1, .int .i64 (xtl ps out (allS lo hi)).2, .int .i64 0]) ∧ Below w.heap.size w w' := by
  have h4 := hc.l4
  have k4 := hc.h4
  have HV := Lib.hid (fun w hp hl hh => validateContractP_any a (some ⟨lb, lf, none⟩) (some ⟨hb, hf, none⟩) ca c1 c2 ps lo hi out mn mx w hp hl hh (by omega) (by omega))
  rw [hz, h4, k4] at HV
  have HG := Lib.hid (fun (s : List Int) (b : Nat) (w : World) (hx : inBx lo hi 4 s) (hp : LinesAt w a ps) (hs : IntsAt w (some ⟨b, 0, none⟩) s) => show Calls Try.prog 40 #[.slice a ps.length ca, .slice (some ⟨b, 0, none⟩) 4 4, .int .i64 out] w (fun e w' => e = .returned (.int .i64 (endP ps s out)) ∧ Below w.heap.size w w') by
    have h := end_any a (some ⟨b, 0, none⟩) ca 4 ps s out w hp hs (by unfold vr fe; rw [if_pos hv]; exact inBx_vs hc hx) ho
    rw [hx.1] at h
    exact h)
  have HL := Lib.hid hl
  have HH := Lib.hid hh
  have HC := Lib.hid hc
  have HP := Lib.hid hp
  have HNN := Lib.hid hN
  have HLB := Lib.hid hlb
  have HHB := Lib.hid hhb
  clear hz hv hp hc ho hl hh h4 k4 hN
  have hI0 : ScnI w.heap.size (.slice a ps.length ca) #[.slice (some ⟨lb, lf, none⟩) 4 c1, .slice (some ⟨hb, hf, none⟩) 4 c2, .int .i64 out, .int .i64 mn, .int .i64 mx] w ((w.alloc (.cells #[.slice a ps.length ca] 32)).alloc (.cells #[.slice (some ⟨lb, lf, none⟩) 4 c1, .slice (some ⟨hb, hf, none⟩) 4 c2, .int .i64 out, .int .i64 mn, .int .i64 mx] 36)) :=
    ⟨hp_alloc (hp_new rfl), hp_new (by simp), ((Below.refl _ _).alloc (Nat.le_refl _) _).alloc (by simp) _⟩
  have HI0 := Lib.hid hI0
  have x0 := hp_cell hI0.bp (j := 0) (by rfl)
  have y0 := hp_cell hI0.bc (j := 0) (by rfl)
  have y1 := hp_cell hI0.bc (j := 1) (by rfl)
  have y2 := hp_cell hI0.bc (j := 2) (by rfl)
  have y3 := hp_cell hI0.bc (j := 3) (by rfl)
  have y4 := hp_cell hI0.bc (j := 4) (by rfl)
  clear hI0
  refine (callsIn_wide (n := 4)).1 ?_
  refine callsIn_of_wp_marks Try.func16 rfl trivial ?_
  simp only [Try.ntmps16, List.size_toArray, List.length_cons, List.length_nil, Nat.reduceAdd, Nat.reduceSub, Array.replicate_succ, Array.replicate_zero, List.push_toArray, List.append_toArray, List.nil_append, List.cons_append]
  gi_wp2_with fail
  refine ⟨trivial, ?_⟩
  gi_at_call 35
  refine (callsIn_wide.2 (HV.out _ (HP.out.below HI0.out.below (Nat.le_refl _)) (.inr ⟨lb, lf, rfl, Nat.lt_of_lt_of_le HLB.out HI0.out.below.size, fun j n hj => (HI0.out.below.cell (p := ⟨lb, _, none⟩) HLB.out).trans (HL.out j n hj)⟩) (.inr ⟨hb, hf, rfl, Nat.lt_of_lt_of_le HHB.out HI0.out.below.size, fun j n hj => (HI0.out.below.cell (p := ⟨hb, _, none⟩) HHB.out).trans (HH.out j n hj)⟩))).mono ?_
  rintro e w2 ⟨rfl, hB⟩
  have HI2 := Lib.hid (HI0.out.low hB)
  clear hB x0 y0 y1 y2 y3 y4 HI0
  have y0 := hp_cell HI2.out.bc (j := 0) (by rfl)
  have y1 := hp_cell HI2.out.bc (j := 1) (by rfl)
  have y2 := hp_cell HI2.out.bc (j := 2) (by rfl)
  have y3 := hp_cell HI2.out.bc (j := 3) (by rfl)
  have y4 := hp_cell HI2.out.bc (j := 4) (by rfl)
  have hI3 : ScnI w.heap.size (.slice a ps.length ca) #[.slice (some ⟨lb, lf, none⟩) 4 c1, .slice (some ⟨hb, hf, none⟩) 4 c2, .int .i64 out, .int .i64 mn, .int .i64 mx] w ((w2.alloc (.cells #[.int .i64 999] 3)).alloc (.cells #[.int .i64 (-999)] 3)) := (HI2.out.low ((Below.refl _ _).alloc (Nat.le_refl _) _)).low ((Below.refl _ _).alloc (Nat.le_refl _) _)
  have z0 := hp_cell hI3.bc (j := 0) (by rfl)
  have z1 := hp_cell hI3.bc (j := 1) (by rfl)
  have z2 := hp_cell hI3.bc (j := 2) (by rfl)
  have z3 := hp_cell hI3.bc (j := 3) (by rfl)
  have z4 := hp_cell hI3.bc (j := 4) (by rfl)
  have hs2 := hp_lt HI2.out.bc
  have hsw := HI2.out.below.size
  gi_wp2_with fail
  refine ⟨trivial, ?_⟩
  gi_at_call 38
  refine (callsIn_wide.2 (states_mk _ _ _ _ _ _ _ _)).mono ?_
  rintro e w4 ⟨rfl, hw4⟩
  try simp only [World.size_alloc]
  try simp only [World.size_alloc] at hw4
  have hI4 : ScnI w.heap.size (.slice a ps.length ca) #[.slice (some ⟨lb, lf, none⟩) 4 c1, .slice (some ⟨hb, hf, none⟩) 4 c2, .int .i64 out, .int .i64 mn, .int .i64 mx] w w4 := by
    rw [← hw4]; exact ((HI2.out.low ((Below.refl _ _).alloc (Nat.le_refl _) _)).low ((Below.refl _ _).alloc (Nat.le_refl _) _)).low ((Below.refl _ _).alloc (Nat.le_refl _) _)
  have hk4 : w4.heap[w2.heap.size]? = some (.cells #[.int .i64 999] 3 (0, 0)) := by rw [← hw4]; exact hp_alloc (hp_alloc (hp_new rfl))
  have hm4 : w4.heap[w2.heap.size + 1]? = some (.cells #[.int .i64 (-999)] 3 (0, 0)) := by rw [← hw4]; exact hp_alloc (hp_new (by simp only [World.size_alloc]))
  have hbx : w4.heap[w2.heap.size + 1 + 1]? = some (.cells #[.slice (some ⟨lb, lf, none⟩) 4 c1, .slice (some ⟨hb, hf, none⟩) 4 c2, .int .i64 out, .int .i64 mn, .int .i64 mx] 36 (0, 0)) := by
    rw [← hw4]; exact hp_new (by simp only [World.size_alloc])
  have hsz : w4.heap.size = w2.heap.size + 3 := by rw [← hw4]; simp
  have HI4 := Lib.hid hI4
  have HK4 := Lib.hid hk4
  have HM4 := Lib.hid hm4
  have hws := hI4.below.size
  have hlb := HLB.out
  have hhb := HHB.out
  have hseq := states_iter 3 (by omega) (w2.heap.size + 1 + 1) lb lf hb hf c1 c2 lo hi out mn mx [w2.heap.size, w2.heap.size + 1] w4 HC.out hbx (by omega) (by omega)
    (fun j m hj => (hI4.below.cell (p := ⟨lb, _, none⟩) hlb).trans (HL.out j m hj)) (fun j m hj => (hI4.below.cell (p := ⟨hb, _, none⟩) hhb).trans (HH.out j m hj)) (by refine ⟨?_, ?_, ?_⟩ <;> simp <;> omega) (by simp; omega)
  have HSEQ := Lib.hid hseq
  clear hw4 hI4 hk4 hm4 hseq hbx y0 y1 y2 y3 y4 HI2 hI3 z0 z1 z2 z3 z4
  gi_wp2_with fail
  refine rng_law (by omega) (gf := 78) (lb := #[.pointer (some ⟨w2.heap.size + 1 + 1, 0, none⟩)]) rfl (enters_of Try.func78 (by kernel_rfl) rfl) [w2.heap.size, w2.heap.size + 1] (stRs lo hi) HSEQ.out (fun _ => rfl) (by simp; omega)
    (fun pre W => ScnI w.heap.size (.slice a ps.length ca) #[.slice (some ⟨lb, lf, none⟩) 4 c1, .slice (some ⟨hb, hf, none⟩) 4 c2, .int .i64 out, .int .i64 mn, .int .i64 mx] w W ∧ W.heap[w2.heap.size]? = some (.cells #[.int .i64 (xtl ps out (pre.map Subtype.val)).1] 3 (0, 0)) ∧ W.heap[w2.heap.size + 1]? = some (.cells #[.int .i64 (xtl ps out (pre.map Subtype.val)).2] 3 (0, 0)))
    (fun _ _ => False)
    ?hI ?hIx ⟨HI4.out, HK4.out, HM4.out⟩ ?round ?done ?stop
  case hI =>
    rintro pre A A' ⟨h1, h2, h3⟩ hb
    exact ⟨h1.lowB hb (by omega), hp_below h2 hb (by omega), hp_below h3 hb (by omega)⟩
  case hIx => rintro pre A r o h hl; exact h
  case round =>
    rintro pre x A ⟨h1, h2, h3⟩ hA hlen
    unfold encSt
    have hnx : xtl ps out ((pre ++ [x]).map Subtype.val) = (min (xtl ps out (pre.map Subtype.val)).1 (endP ps x.1 out), max (xtl ps out (pre.map Subtype.val)).2 (endP ps x.1 out)) := by
      rw [List.map_append]; exact xtl_snoc _ _ _ _
    have HNX := Lib.hid hnx
    generalize xtl ps out (pre.map Subtype.val) = p0 at h2 h3 HNX
    obtain ⟨m0, n0⟩ := p0
    try simp only at h2 h3
    have HX4 := Lib.hid x.2.1
    have HI1 := Lib.hid h1
    have HK1 := Lib.hid h2
    have HM1 := Lib.hid h3
    clear h1 h2 h3 hnx
    gi_wp2_with (refine wpListIn_store_row rfl 83 (.tmp 10) (.tmp 20) rfl A.heap.size (iv x.1) rfl rfl 83 _ (hp_new rfl) (by rw [info_stt, iv_size, HX4.out]) (by rw [iv_size, HX4.out]; rfl) (iv_one _) ?_)
    rw [row_new]
    refine ⟨(Below.refl _ _).alloc (Nat.le_refl _) _, fun A2 hb2 hs2 hk2 => ?_⟩
    try simp only [Act.put]
    have hst : A2.heap[A.heap.size]? = some (.cells (iv x.1) 83 (0, 0)) := (hk2 _ (by omega)).trans (hp_new rfl)
    have HI2 := Lib.hid ((HI1.out.lowB ((Below.refl _ _).alloc (Nat.le_refl A.heap.size) _) ⟨by omega, by omega⟩).lowB hb2 ⟨by omega, by omega⟩)
    have HK2 := Lib.hid (hp_below (hp_alloc HK1.out) hb2 (by omega))
    have HM2 := Lib.hid (hp_below (hp_alloc HM1.out) hb2 (by omega))
    have hsz2 : A2.heap.size = A.heap.size + 1 := by rw [hs2]; try simp
    clear hb2 hs2 hk2 HI1 HK1 HM1
    have hsc : ∀ j n, x.1[j]? = some n → A2.cell? ⟨A.heap.size, 0 + j, none⟩ = some (.int .i64 n) := fun j n hj => by
      rw [Nat.zero_add]; exact hp_cell hst (by simp [iv, hj])
    have HSC := Lib.hid hsc
    have HIN := Lib.hid x.2
    clear hsc hst
    have hI := HI2.out.drew
    have c0 := hp_cell hI.bp (j := 0) (by rfl)
    have c3 := hp_cell hI.bc (j := 2) (by rfl)
    have hmx : Try.prog.follows .mixedOrders = true := by kernel_rfl
    generalize hV : endP ps x.1 out = V at HNX ⊢
    have HGV := Lib.hid (fun w hp hs => HG.out x.1 A.heap.size w HIN.out hp hs)
    rw [hV] at HGV
    clear hV
    gi_upto_region 7 with fail
    gi_cut [11] from 12 (fun s11 wx => s11 = .int .i64 V ∧ KX [w2.heap.size, w2.heap.size + 1] A2 wx ∧ ScnI w.heap.size (.slice a ps.length ca) #[.slice (some ⟨lb, lf, none⟩) 4 c1, .slice (some ⟨hb, hf, none⟩) 4 c2, .int .i64 out, .int .i64 mn, .int .i64 mx] w wx ∧ wx.heap[w2.heap.size]? = some (.cells #[.int .i64 m0] 3 (0, 0)) ∧ wx.heap[w2.heap.size + 1]? = some (.cells #[.int .i64 n0] 3 (0, 0)))
    case first =>
      rename_i J0 K0 hJ0 hK0
      clear HI2
      gi_region_with_o (refine ⟨trivial, ?_⟩; gi_at_call 40; refine (CallsIn.inRound _ (callsIn_wide.2 (HGV.out _ ?_ ?_))).mono ?_; exact HP.out.below hI.below (Nat.le_refl _); exact .inr ⟨_, _, rfl, by show _ < A2.heap.size; omega, fun j n hj => HSC.out j n hj⟩; rintro e w5 ⟨rfl, hb5⟩; replace hI := hI.low hb5; have hsz5 := hb5.size)
      all_goals clear c0 c3
      all_goals refine hK0 _ _ (Met.intro (hJ0 _ _ ?_))
      all_goals repeat apply Exists.intro
      all_goals (refine ⟨?rel, rfl⟩; (case rel => exact ⟨rfl, KX.of_below (X := [w2.heap.size, w2.heap.size + 1]) (((Below.refl A2.heap.size A2).drew).trans (by exact hb5)), hI, hp_below (hp_drew HK2.out) hb5 (by show w2.heap.size < A2.heap.size; omega), hp_below (hp_drew HM2.out) hb5 (by show w2.heap.size + 1 < A2.heap.size; omega)⟩))
    case rest =>
      obtain ⟨rfl, hKX, hI5, hK5, hM5⟩ := hcut
      have HKX := Lib.hid hKX
      have HK5 := Lib.hid hK5
      have HM5 := Lib.hid hM5
      have HI5 := Lib.hid hI5
      clear HI2 hI c0 c3 hKX hK5 hM5 hI5
      have k0 := hp_cell HK5.out (j := 0) (by rfl)
      have k1 := hp_free HK5.out 0
      have m1 := hp_cell HM5.out (j := 0) (by rfl)
      have m2 := hp_free HM5.out 0
      gi_wp2_with fail
      have hmin : (if V < m0 then V else m0) = min m0 V := by split <;> omega
      have hmax : (if n0 < V then V else n0) = max n0 V := by split <;> omega
      have HN1 := Lib.hid hmin
      have HN2 := Lib.hid hmax
      clear hmin hmax
      refine wpIn_mono (Q := fun e _ W' => e = .normal ∧ W' = (((wc.setCell ⟨w2.heap.size, 0, none⟩ (.int .i64 (min m0 V))).setCell ⟨w2.heap.size + 1, 0, none⟩ (.int .i64 (max n0 V))).drew)) ?_ ?_
      · clear HSEQ HGV HG HIN HSC HKX HK5 HM5 HI5 HNX HP HL HH HC HV HNN HI4 HK4 HM4
        gi_region_o
        all_goals exact ⟨rfl, by rw [HN1.out, HN2.out]⟩
      · rintro e a' W' ⟨rfl, rfl⟩
        refine ⟨((HKX.out.trans (KX.setCell _ (b := w2.heap.size) (by simp) 0 _)).trans (KX.setCell _ (b := w2.heap.size + 1) (by simp) 0 _)).trans (KX.of_below (Below.refl _ _).drew), ((HI5.out.put (Nat.le_refl _) (by omega) _ _).put (Nat.le_refl _) (by omega) _ _).drew, ?_, ?_⟩
        · rw [show (pre ++ [x]).unattach = (pre ++ [x]).map Subtype.val from rfl, HNX.out]; simpa using hp_drew (hp_set (hp_put HK5.out 0 (.int .i64 (min m0 V))) (p := ⟨w2.heap.size + 1, 0, none⟩) (by show _ ≠ w2.heap.size + 1; omega) (.int .i64 (max n0 V)))
        · rw [show (pre ++ [x]).unattach = (pre ++ [x]).map Subtype.val from rfl, HNX.out]; simpa using hp_drew (hp_put (hp_set HM5.out (p := ⟨w2.heap.size, 0, none⟩) (by show _ ≠ w2.heap.size; omega) (.int .i64 (min m0 V))) 0 (.int .i64 (max n0 V)))
  case done =>
    rintro W ⟨h1, h2, h3⟩ hK
    rw [stRs_map] at h2 h3
    have HI5 := Lib.hid h1
    have k0 := hp_cell h2 (j := 0) (by rfl)
    have k1 := hp_cell h3 (j := 0) (by rfl)
    clear h1 h2 h3
    gi_wp2_with fail
    gi_quiet (fail)
    gi_wp2_with fail
    refine ⟨by simp, .inl ⟨_, _, rfl, run_takeDeferred hK, ?_⟩⟩
    have hJ2 := (show ScnI _ _ _ w (W.drewN nq) from ⟨HI5.out.bp, HI5.out.bc, HI5.out.below.trans ⟨rfl, rfl, rfl, Nat.le_refl _, fun _ _ => rfl⟩⟩).lowB (below_putObj w4.heap.size (W.drewN nq) (Nat.le_refl _) (.deferred none)) ⟨by omega, by omega⟩
    exact ⟨_, results_tmp3 rfl _ _ _, rfl, hJ2.below⟩
  case stop =>
    rintro pre W hpre h hK
    exact h.elim

end Go.Proofs.Ytdcoebeffbkpnaa
