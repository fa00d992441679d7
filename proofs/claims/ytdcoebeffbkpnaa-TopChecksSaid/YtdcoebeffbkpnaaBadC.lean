/- How many states are bad: Bad of package check: contract. -/
import Derived.Test.YtdcoebeffbkpnaaRkp
set_option linter.unusedVariables false
set_option linter.unusedSimpArgs false
namespace Go.Proofs.Ytdcoebeffbkpnaa
open Go.RowKit Go.Shelf Tinker
attribute [local go_sem] Oper.semAt_some

/-- The memory of a scan: the program, the contract. B is the size of the heap at the start. -/
structure ScnI (B : Nat) (vp : Value) (vc : Array Value) (w W : World) : Prop where
  bp : W.heap[B]? = some (.cells #[vp] 32 (0, 0))
  bc : W.heap[B + 1]? = some (.cells vc 36 (0, 0))
  below : Below w.heap.size w W
theorem ScnI.lowB {B : Nat} {vp : Value} {vc : Array Value} {w W W' : World} (h : ScnI B vp vc w W) {n : Nat} (hb : Below n W W') (hn : B + 2 ≤ n ∧ w.heap.size ≤ n) : ScnI B vp vc w W' :=
  ⟨hp_below h.bp hb (by omega), hp_below h.bc hb (by omega), h.below.trans (hb.mono hn.2)⟩
theorem ScnI.low {B : Nat} {vp : Value} {vc : Array Value} {w W W' : World} (h : ScnI B vp vc w W) (hb : Below W.heap.size W W') : ScnI B vp vc w W' :=
  h.lowB hb ⟨by have := hp_lt h.bc; omega, h.below.size⟩
theorem ScnI.drew {B : Nat} {vp : Value} {vc : Array Value} {w W : World} (h : ScnI B vp vc w W) : ScnI B vp vc w W.drew := ⟨hp_drew h.bp, hp_drew h.bc, h.below.drew⟩
theorem ScnI.put {B : Nat} {vp : Value} {vc : Array Value} {w W : World} (h : ScnI B vp vc w W) (hB : w.heap.size ≤ B) {K : Nat} (hK : B + 1 < K) (j : Nat) (v : Value) : ScnI B vp vc w (W.setCell ⟨K, j, none⟩ v) :=
  ⟨hp_set h.bp (by show B ≠ K; omega) _, hp_set h.bc (by show B + 1 ≠ K; omega) _, h.below.setCell (p := ⟨K, j, none⟩) (by show _ ≤ K; omega) _⟩

set_option maxRecDepth 100000 in
set_option maxHeartbeats 4000000 in
theorem bad_ok (a : Option Addr) (ca lb lf hb hf c1 c2 : Nat) (ps : List L) (lo hi : List Int) (out mn mx : Int) (w : World) (hz : vpc ps lo hi out mn mx = 0) (hv : vp ps = 0) (hp : LinesAt w a ps) (hc : OkC lo hi) (ho : isReg out = true) (hlb : lb < w.heap.size) (hhb : hb < w.heap.size)
    (hl : ∀ j n, lo[j]? = some n → w.cell? ⟨lb, lf + j, none⟩ = some (.int .i64 n)) (hh : ∀ j n, hi[j]? = some n → w.cell? ⟨hb, hf + j, none⟩ = some (.int .i64 n)) (hN : (allS lo hi).length ≤ 400) :
    Calls Try.prog 15 #[.slice a ps.length ca, .agg #[.slice (some ⟨lb, lf, none⟩) 4 c1, .slice (some ⟨hb, hf, none⟩) 4 c2, .int .i64 out, .int .i64 mn, .int .i64 mx]] w fun e w' => e = .returned (.tuple #[.int .i64 ((bdS ps lo hi out mn mx).length : Int), .int .i64 0]) ∧ Below w.heap.size w w' := by
  have h4 := hc.l4
  have k4 := hc.h4
  have HV := Lib.hid (fun w hp hl hh => validateContractP_any a (some ⟨lb, lf, none⟩) (some ⟨hb, hf, none⟩) ca c1 c2 ps lo hi out mn mx w hp hl hh (by omega) (by omega))
  rw [hz, h4, k4] at HV
  have HG := Lib.hid (fun (s : List Int) (b : Nat) (w : World) (hx : inBx lo hi 4 s) (hp : LinesAt w a ps) (hs : IntsAt w (some ⟨b, 0, none⟩) s) => show Calls Try.prog 39 #[.slice a ps.length ca, .agg #[.slice (some ⟨lb, lf, none⟩) 4 c1, .slice (some ⟨hb, hf, none⟩) 4 c2, .int .i64 out, .int .i64 mn, .int .i64 mx], .slice (some ⟨b, 0, none⟩) 4 4] w (fun e w' => e = .returned (.bool (gdP ps out mn mx s)) ∧ Below w.heap.size w w') by
    have h := isGood_any a (some ⟨b, 0, none⟩) (some ⟨lb, lf, none⟩) (some ⟨hb, hf, none⟩) ca 4 4 4 c1 c2 ps s out mn mx w hp hs (by unfold vr fe; rw [if_pos hv]; exact inBx_vs hc hx) ho
    rw [hx.1] at h
    exact h)
  have HL := Lib.hid hl
  have HH := Lib.hid hh
  have HC := Lib.hid hc
  have HP := Lib.hid hp
  have HNN := Lib.hid hN
  have HLB := Lib.hid hlb
  have HHB := Lib.hid hhb
  clear hz hv hp hc ho hl hh h4 k4 hN
  have hI0 : ScnI w.heap.size (.slice a ps.length ca) #[.slice (some ⟨lb, lf, none⟩) 4 c1, .slice (some ⟨hb, hf, none⟩) 4 c2, .int .i64 out, .int .i64 mn, .int .i64 mx] w ((w.alloc (.cells #[.slice a ps.length ca] 32)).alloc (.cells #[.slice (some ⟨lb, lf, none⟩) 4 c1, .slice (some ⟨hb, hf, none⟩) 4 c2, .int .i64 out, .int .i64 mn, .int .i64 mx] 36)) :=
    ⟨hp_alloc (hp_new rfl), hp_new (by simp), ((Below.refl _ _).alloc (Nat.le_refl _) _).alloc (by simp) _⟩
  have HI0 := Lib.hid hI0
  have x0 := hp_cell hI0.bp (j := 0) (by rfl)
  have y0 := hp_cell hI0.bc (j := 0) (by rfl)
  have y1 := hp_cell hI0.bc (j := 1) (by rfl)
  have y2 := hp_cell hI0.bc (j := 2) (by rfl)
  have y3 := hp_cell hI0.bc (j := 3) (by rfl)
  have y4 := hp_cell hI0.bc (j := 4) (by rfl)
  clear hI0
  refine (callsIn_wide (n := 4)).1 ?_
  refine callsIn_of_wp_marks Try.func15 rfl trivial ?_
  simp only [Try.ntmps15, List.size_toArray, List.length_cons, List.length_nil, Nat.reduceAdd, Nat.reduceSub, Array.replicate_succ, Array.replicate_zero, List.push_toArray, List.append_toArray, List.nil_append, List.cons_append]
  gi_wp2_with fail
  refine ⟨trivial, ?_⟩
  gi_at_call 35
  refine (callsIn_wide.2 (HV.out _ (HP.out.below HI0.out.below (Nat.le_refl _)) (.inr ⟨lb, lf, rfl, Nat.lt_of_lt_of_le HLB.out HI0.out.below.size, fun j n hj => (HI0.out.below.cell (p := ⟨lb, _, none⟩) HLB.out).trans (HL.out j n hj)⟩) (.inr ⟨hb, hf, rfl, Nat.lt_of_lt_of_le HHB.out HI0.out.below.size, fun j n hj => (HI0.out.below.cell (p := ⟨hb, _, none⟩) HHB.out).trans (HH.out j n hj)⟩))).mono ?_
  rintro e w2 ⟨rfl, hB⟩
  have HI2 := Lib.hid (HI0.out.low hB)
  clear hB x0 y0 y1 y2 y3 y4 HI0
  have y0 := hp_cell HI2.out.bc (j := 0) (by rfl)
  have y1 := hp_cell HI2.out.bc (j := 1) (by rfl)
  have y2 := hp_cell HI2.out.bc (j := 2) (by rfl)
  have y3 := hp_cell HI2.out.bc (j := 3) (by rfl)
  have y4 := hp_cell HI2.out.bc (j := 4) (by rfl)
  have hs2 := hp_lt HI2.out.bc
  have hsw := HI2.out.below.size
  gi_wp2_with fail
  refine ⟨trivial, ?_⟩
  gi_at_call 38
  refine (callsIn_wide.2 (states_mk _ _ _ _ _ _ _ _)).mono ?_
  rintro e w4 ⟨rfl, hw4⟩
  try simp only [World.size_alloc]
  try simp only [World.size_alloc] at hw4
  have hI4 : ScnI w.heap.size (.slice a ps.length ca) #[.slice (some ⟨lb, lf, none⟩) 4 c1, .slice (some ⟨hb, hf, none⟩) 4 c2, .int .i64 out, .int .i64 mn, .int .i64 mx] w w4 := by
    rw [← hw4]; exact (HI2.out.low ((Below.refl _ _).alloc (Nat.le_refl _) _)).low ((Below.refl _ _).alloc (Nat.le_refl _) _)
  have hk4 : w4.heap[w2.heap.size]? = some (.cells #[.int .i64 0] 3 (0, 0)) := by rw [← hw4]; exact hp_alloc (hp_new rfl)
  have hbx : w4.heap[w2.heap.size + 1]? = some (.cells #[.slice (some ⟨lb, lf, none⟩) 4 c1, .slice (some ⟨hb, hf, none⟩) 4 c2, .int .i64 out, .int .i64 mn, .int .i64 mx] 36 (0, 0)) := by
    rw [← hw4]; exact hp_new (by simp only [World.size_alloc])
  have hsz : w4.heap.size = w2.heap.size + 2 := by rw [← hw4]; simp
  have HI4 := Lib.hid hI4
  have HK4 := Lib.hid hk4
  have hws := hI4.below.size
  have hlb := HLB.out
  have hhb := HHB.out
  have hseq := states_iter 3 (by omega) (w2.heap.size + 1) lb lf hb hf c1 c2 lo hi out mn mx [w2.heap.size] w4 HC.out hbx (by omega) (by omega)
    (fun j m hj => (hI4.below.cell (p := ⟨lb, _, none⟩) hlb).trans (HL.out j m hj)) (fun j m hj => (hI4.below.cell (p := ⟨hb, _, none⟩) hhb).trans (HH.out j m hj)) (by refine ⟨?_, ?_, ?_⟩ <;> simp <;> omega) (by simp; omega)
  have HSEQ := Lib.hid hseq
  clear hw4 hI4 hk4 hseq hbx y0 y1 y2 y3 y4 HI2
  gi_wp2_with fail
  refine rng_law (by omega) (gf := 78) (lb := #[.pointer (some ⟨w2.heap.size + 1, 0, none⟩)]) rfl (enters_of Try.func78 (by kernel_rfl) rfl) [w2.heap.size] (stRs lo hi) HSEQ.out (fun _ => rfl) (by simp; omega)
    (fun pre W => ScnI w.heap.size (.slice a ps.length ca) #[.slice (some ⟨lb, lf, none⟩) 4 c1, .slice (some ⟨hb, hf, none⟩) 4 c2, .int .i64 out, .int .i64 mn, .int .i64 mx] w W ∧ W.heap[w2.heap.size]? = some (.cells #[.int .i64 (((pre.map Subtype.val).filter fun s => !gdP ps out mn mx s).length : Int)] 3 (0, 0)))
    (fun _ _ => False)
    ?hI ?hIx ⟨HI4.out, by simpa using HK4.out⟩ ?round ?done ?stop
  case hI =>
    rintro pre A A' ⟨h1, h2⟩ hb
    exact ⟨h1.lowB hb (by omega), hp_below h2 hb (by omega)⟩
  case hIx => rintro pre A r o h hl; exact h
  case round =>
    rintro pre x A ⟨h1, h2⟩ hA hlen
    unfold encSt
    have hpl : ((pre.map Subtype.val).filter fun s => !gdP ps out mn mx s).length ≤ 400 := by
      have := List.length_filter_le (fun s => !gdP ps out mn mx s) (pre.map Subtype.val)
      rw [stRs_length] at hlen
      have := HNN.out
      simp only [List.length_map] at *
      omega
    have hnx : ((pre ++ [x]).map Subtype.val).filter (fun s => !gdP ps out mn mx s) = ((pre.map Subtype.val).filter fun s => !gdP ps out mn mx s) ++ (if gdP ps out mn mx x.1 then [] else [x.1]) := by
      rw [List.map_append, List.filter_append]
      congr 1
      cases hg : gdP ps out mn mx x.1 <;> simp [hg]
    have HNX := Lib.hid hnx
    generalize ((pre.map Subtype.val).filter fun s => !gdP ps out mn mx s) = bs at h2 hpl HNX
    have HX4 := Lib.hid x.2.1
    have HI1 := Lib.hid h1
    have HK1 := Lib.hid h2
    clear h1 h2 hnx
    gi_wp2_with (refine wpListIn_store_row rfl 83 (.tmp 8) (.tmp 17) rfl A.heap.size (iv x.1) rfl rfl 83 _ (hp_new rfl) (by rw [info_stt, iv_size, HX4.out]) (by rw [iv_size, HX4.out]; rfl) (iv_one _) ?_)
    rw [row_new]
    refine ⟨(Below.refl _ _).alloc (Nat.le_refl _) _, fun A2 hb2 hs2 hk2 => ?_⟩
    simp only [Act.put]
    have hst : A2.heap[A.heap.size]? = some (.cells (iv x.1) 83 (0, 0)) := (hk2 _ (by omega)).trans (hp_new rfl)
    have HI2 := Lib.hid ((HI1.out.lowB ((Below.refl _ _).alloc (Nat.le_refl A.heap.size) _) ⟨by omega, by omega⟩).lowB hb2 ⟨by omega, by omega⟩)
    have HK2 := Lib.hid (hp_below (hp_alloc HK1.out) hb2 (by omega))
    have hsz2 : A2.heap.size = A.heap.size + 1 := by rw [hs2]; simp
    clear hb2 hs2 hk2 HI1 HK1
    have hsc : ∀ j n, x.1[j]? = some n → A2.cell? ⟨A.heap.size, 0 + j, none⟩ = some (.int .i64 n) := fun j n hj => by
      rw [Nat.zero_add]; exact hp_cell hst (by simp [iv, hj])
    have HSC := Lib.hid hsc
    have HIN := Lib.hid x.2
    clear hsc hst
    have hI := HI2.out.drew
    have c0 := hp_cell hI.bp (j := 0) (by rfl)
    have c1' := hp_cell hI.bc (j := 0) (by rfl)
    have c2' := hp_cell hI.bc (j := 1) (by rfl)
    have c3 := hp_cell hI.bc (j := 2) (by rfl)
    have c4 := hp_cell hI.bc (j := 3) (by rfl)
    have c5 := hp_cell hI.bc (j := 4) (by rfl)
    have hmx : Try.prog.follows .mixedOrders = true := by kernel_rfl
    gi_wp2_with fail
    clear HI2
    gi_region_with_o (refine ⟨trivial, ?_⟩; gi_at_call 39; refine (CallsIn.inRound _ (callsIn_wide.2 (HG.out x.1 A.heap.size _ HIN.out ?_ ?_))).mono ?_; exact HP.out.below hI.below (Nat.le_refl _); exact .inr ⟨_, _, rfl, by show _ < A2.heap.size; omega, fun j n hj => HSC.out j n hj⟩; rintro e w5 ⟨rfl, hb5⟩; replace hI := hI.low hb5; have hsz5 := hb5.size)
    all_goals clear c0 c1' c2' c3 c4 c5
    all_goals replace hsz5 : A.heap.size + 1 ≤ w5.heap.size := (by rw [← hsz2]; exact hsz5)
    all_goals have HKX := Lib.hid ((KX.of_below (X := [w2.heap.size]) (((Below.refl A2.heap.size A2).drew).trans (by exact hb5))))
    all_goals have HK5 := Lib.hid (hp_below (hp_drew HK2.out) hb5 (by show w2.heap.size < A2.heap.size; omega))
    all_goals have HI5 := Lib.hid hI
    all_goals clear hb5 hI
    all_goals (
      cases hGx : gdP ps out mn mx x.1
      · have HGG := Lib.hid hGx
        clear hGx
        have k0 := hp_cell HK5.out (j := 0) (by rfl)
        have k1 := hp_free HK5.out 0
        gi_wp2_with fail
        refine ⟨HKX.out.trans (KX.setCell _ (b := w2.heap.size) (by simp) 0 _), HI5.out.put (Nat.le_refl _) (by omega) _ _, ?_⟩
        rw [HNX.out, if_neg (by rw [HGG.out]; simp)]
        simpa using hp_put HK5.out 0 (.int .i64 ((bs.length : Int) + 1))
      · have HGG := Lib.hid hGx
        clear hGx
        gi_wp2_with fail
        refine ⟨HKX.out, HI5.out, ?_⟩
        rw [HNX.out, if_pos HGG.out]
        simpa using HK5.out)
  case done =>
    rintro W ⟨h1, h2⟩ hK
    rw [stRs_map] at h2
    have HI5 := Lib.hid h1
    have k0 := hp_cell h2 (j := 0) (by rfl)
    replace k0 : W.cell? ⟨w2.heap.size, 0, none⟩ = some (.int .i64 ((bdS ps lo hi out mn mx).length : Int)) := k0
    clear h1 h2
    gi_wp2_with fail
    refine ⟨by simp, .inl ⟨_, _, rfl, run_takeDeferred hK, ?_⟩⟩
    have hJ2 := HI5.out.lowB (below_putObj w4.heap.size W (Nat.le_refl _) (.deferred none)) ⟨by omega, by omega⟩
    exact ⟨_, results_tmp2 rfl _ _ _, rfl, hJ2.below⟩
  case stop =>
    rintro pre W hpre h hK
    exact h.elim

end Go.Proofs.Ytdcoebeffbkpnaa
