/- Several texts in one. -/
import Derived.Test.YtdcoebeffbkpnaaGreatRd4
import Derived.Test.YtdcoebeffbkpnaaGreatPtZ
import Derived.Test.YtdcoebeffbkpnaaGreatEdO
import Derived.Test.YtdcoebeffbkpnaaGreatDoe
import Derived.Test.YtdcoebeffbkpnaaGreatRefB
import Derived.Test.YtdcoebeffbkpnaaGreatMgA
import Derived.Test.YtdcoebeffbkpnaaGreatThrB
import Derived.Test.YtdcoebeffbkpnaaGreatFxW
import Derived.Test.YtdcoebeffbkpnaaGreatSml
import Derived.Test.YtdcoebeffbkpnaaGreatPtM
/- Size and Clean of the document's side (patches): contracts. -/
set_option linter.unusedVariables false
set_option linter.unusedSimpArgs false
namespace Go.Proofs.YtdcoebeffbkpnaaGreat
open Go.RowKit Tinker

theorem sz_take' {ps : List L} {xs : List E} {k : Nat} {e : E} {l : L} (he : xs[k]? = some e) (hl : ps[e.at_.toNat]? = some l) : szL ps (xs.take (k + 1)) = szL ps (xs.take k) + dsN l e.ln := by
  rw [sz_take he hl, dsN_comm]

theorem eqL_comm4 (l m : L) : eqL l m = eqL m l := by
  rw [Bool.eq_iff_iff, eqL_iff, eqL_iff]
  exact ⟨fun h => h.symm, fun h => h.symm⟩
theorem cl_yes {ps : List L} {xs : List E} {k : Nat} {e : E} {l : L} (he : xs[k]? = some e) (hl : ps[e.at_.toNat]? = some l) (h : eqL e.ln l = false) : clL ps (xs.take (k + 1)) = clL ps (xs.take k) ++ [e] := by
  unfold clL
  rw [List.take_add_one, he, List.filter_append]
  show _ ++ [e].filter _ = _
  rw [List.filter_cons, lnD_at hl, h]
  rfl
theorem cl_no {ps : List L} {xs : List E} {k : Nat} {e : E} {l : L} (he : xs[k]? = some e) (hl : ps[e.at_.toNat]? = some l) (h : eqL e.ln l = true) : clL ps (xs.take (k + 1)) = clL ps (xs.take k) := by
  unfold clL
  rw [List.take_add_one, he, List.filter_append]
  show _ ++ [e].filter _ = _
  rw [List.filter_cons, lnD_at hl, h]
  show _ ++ [] = _
  rw [List.append_nil]
theorem cl_len (ps : List L) (xs : List E) : (clL ps xs).length ≤ xs.length := by unfold clL; exact List.length_filter_le _ _

end Go.Proofs.YtdcoebeffbkpnaaGreat

/- PatchSizes: the walk. -/
set_option linter.unusedVariables false
set_option linter.unusedSimpArgs false
namespace Go.Proofs.YtdcoebeffbkpnaaGreat
open Go.RowKit Tinker

theorem okD {ps : List L} {xs : List E} {c : Int} (h : vpx ps xs c = 0) : dist xs := dist_of (vx_ok (vpx_ok h).2.1).2.1
theorem vpx_sub {ps : List L} {xs zs : List E} (hs : zs.Sublist xs) (h : vpx ps xs 0 = 0) : vpx ps zs 0 = 0 := by
  obtain ⟨h1, h2, h3, h4⟩ := vpx_ok h
  obtain ⟨k1, k2, k3⟩ := vx_ok h2
  have hl := hs.length_le
  have hx : vx zs = 0 := by
    refine vx_0 (by omega) (set_of (sub_dist hs (dist_of k2))) fun e he => ?_
    have := k3 e (hs.subset he)
    rw [Bool.and_eq_true]
    exact ⟨btw_true.2 this.1, this.2⟩
  unfold vpx
  rw [h1, hx, if_pos (by rfl), if_pos]
  refine allBtw_of fun n hn => ?_
  obtain ⟨e, he, rfl⟩ := List.mem_map.1 hn
  have a := (k3 e (hs.subset he)).1
  have b := h4 e (hs.subset he)
  omega
theorem cl_sub (ps : List L) (xs : List E) : (clL ps xs).Sublist xs := by unfold clL; exact List.filter_sublist
theorem do_cl {ps : List L} {xs : List E} (h : vpx ps xs 0 = 0) : doL ps (clL ps xs) = doL ps xs := by
  obtain ⟨h1, h2, h3⟩ := okX_at h
  rw [← df_do (okD h) (fun e he => (h1 e he).1) (fun e he => (h1 e he).2)]
  exact do_df (doL_len xs ps).symm
theorem clQ_R (ps : List L) (xs : List E) : clQ ps xs = clR ps xs := by
  unfold clQ clR
  by_cases h : vpx ps xs 0 = 0
  · obtain ⟨h1, h2, h3⟩ := okX_at h
    rw [if_pos h, if_pos h, df_do (okD h) (fun e he => (h1 e he).1) (fun e he => (h1 e he).2)]
  · rw [if_neg h, if_neg h]
theorem szs_facts {ps : List L} {xs : List E} (h : vpx ps xs 0 = 0) : vpx ps (clR ps xs) 0 = 0 ∧ szR ps (clR ps xs) = szR ps xs ∧ doP ps (clR ps xs) = doP ps xs ∧ ((clR ps xs).length : Int) ≤ szR ps xs ∧ (clR ps xs).length ≤ 4 ∧ (doP ps xs).length ≤ 8 := by
  have e : clR ps xs = clL ps xs := by unfold clR; rw [if_pos h]
  have hv := vpx_sub (cl_sub ps xs) h
  obtain ⟨h1, h2, h3⟩ := okX_at h
  have hl := (cl_sub ps xs).length_le
  rw [e]
  unfold szR doP
  rw [if_pos h, if_pos h, if_pos hv, if_pos hv, do_cl h, doL_len]
  exact ⟨hv, (cl_size ps xs).1, rfl, (cl_size ps xs).2, by omega, h2⟩
theorem clR_len (ps : List L) (xs : List E) : (clR ps xs).length ≤ xs.length := by
  unfold clR
  split
  · exact cl_len ps xs
  · simp
theorem szR_le (ps : List L) (xs : List E) : 0 ≤ szR ps xs ∧ szR ps xs ≤ 4 * (xs.length : Int) := by
  unfold szR
  split
  · exact szL_le ps xs
  · constructor <;> omega

end Go.Proofs.YtdcoebeffbkpnaaGreat

/- Inverse of the document's side (patches): contract. -/
set_option linter.unusedVariables false
set_option linter.unusedSimpArgs false
namespace Go.Proofs.YtdcoebeffbkpnaaGreat
open Go.RowKit Tinker

end Go.Proofs.YtdcoebeffbkpnaaGreat

/- PatchUndoes: the walk. -/
set_option linter.unusedVariables false
set_option linter.unusedSimpArgs false
namespace Go.Proofs.YtdcoebeffbkpnaaGreat
open Go.RowKit Tinker

theorem inv_vpx {ps : List L} {xs : List E} (h : vpx ps xs 0 = 0) : vpx (doL ps xs) (invL ps xs) 0 = 0 := by
  obtain ⟨h1, h2, _, h4⟩ := vpx_ok h
  obtain ⟨k1, k2, k3⟩ := vx_ok h2
  have hv := doL_vp h1 (fun e he => (k3 e he).2)
  have hx : vx (invL ps xs) = 0 := by
    refine vx_0 (by rw [inv_len]; exact k1) (by rw [inv_pl]; exact k2) fun e he => ?_
    obtain ⟨x, hx, rfl⟩ := List.mem_map.1 he
    have := k3 x hx
    rw [Bool.and_eq_true]
    refine ⟨btw_true.2 this.1, ?_⟩
    obtain ⟨l, hl⟩ := get_of_lt (h4 x hx)
    show isLn (ps.getD x.at_.toNat _) = true
    rw [getD_of_get hl]
    exact (vp_ok h1).2 l (mem_of_get hl)
  unfold vpx
  rw [hv, hx, if_pos (by rfl), if_pos]
  refine allBtw_of fun n hn => ?_
  rw [inv_pl] at hn
  obtain ⟨e, he, rfl⟩ := List.mem_map.1 hn
  have := (k3 e he).1
  have := h4 e he
  rw [doL_len]
  omega
theorem und_facts {ps : List L} {xs : List E} (h : vpx ps xs 0 = 0) : doP ps xs = doL ps xs ∧ inR ps xs = invL ps xs ∧ doP (doL ps xs) (invL ps xs) = ps ∧ inR (doL ps xs) (invL ps xs) = xs := by
  obtain ⟨h1, h2, _, h4⟩ := vpx_ok h
  obtain ⟨k1, k2, k3⟩ := vx_ok h2
  have hd := dist_of k2
  have h0 : ∀ e ∈ xs, 0 ≤ e.at_ := fun e he => (k3 e he).1.1
  refine ⟨by unfold doP; rw [if_pos h], by unfold inR; rw [if_pos h], ?_, ?_⟩
  · unfold doP; rw [if_pos (inv_vpx h)]; exact do_inv hd h0
  · unfold inR; rw [if_pos (inv_vpx h)]; exact inv_inv hd h0 h4
theorem inR_len (ps : List L) (xs : List E) : (inR ps xs).length ≤ xs.length := by
  unfold inR
  split
  · rw [inv_len]; exact Nat.le_refl _
  · simp

end Go.Proofs.YtdcoebeffbkpnaaGreat

/- Diff of both sides (patches): contracts. -/
set_option linter.unusedVariables false
set_option linter.unusedSimpArgs false
namespace Go.Proofs.YtdcoebeffbkpnaaGreat
open Go.RowKit Tinker

theorem eqL_comm (l m : L) : eqL l m = eqL m l := by
  rw [Bool.eq_iff_iff, eqL_iff, eqL_iff]
  exact ⟨fun h => h.symm, fun h => h.symm⟩
theorem dfC_1 {ps qs : List L} (h : fe (vp ps) (vp qs) ≠ 0) : dfC ps qs = fe (vp ps) (vp qs) ∧ dfR ps qs = [] := by
  have : dfC ps qs = fe (vp ps) (vp qs) := by unfold dfC; rw [if_neg h]
  exact ⟨this, by unfold dfR; rw [this, if_neg h]⟩
theorem dfC_2 {ps qs : List L} (h : fe (vp ps) (vp qs) = 0) (hl : ps.length ≠ qs.length) : dfC ps qs = 9 ∧ dfR ps qs = [] := by
  have : dfC ps qs = 9 := by unfold dfC; rw [if_pos h, if_neg hl]
  exact ⟨this, by unfold dfR; rw [this, if_neg (by decide)]⟩
theorem dfC_3 {ps qs : List L} (h : fe (vp ps) (vp qs) = 0) (hl : ps.length = qs.length) (h4 : 4 < (dfL ps qs).length) : dfC ps qs = 3 ∧ dfR ps qs = [] := by
  have : dfC ps qs = 3 := by unfold dfC; rw [if_pos h, if_pos hl, if_pos h4]
  exact ⟨this, by unfold dfR; rw [this, if_neg (by decide)]⟩
theorem dfC_0 {ps qs : List L} (h : fe (vp ps) (vp qs) = 0) (hl : ps.length = qs.length) (h4 : ¬ 4 < (dfL ps qs).length) : dfC ps qs = 0 ∧ dfR ps qs = dfL ps qs := by
  have : dfC ps qs = 0 := by unfold dfC; rw [if_pos h, if_pos hl, if_neg h4]
  exact ⟨this, by unfold dfR; rw [this, if_pos rfl]⟩

set_option maxRecDepth 100000 in
set_option maxHeartbeats 2000000 in
theorem pDiff_any (a g : Option Addr) (ca cg : Nat) (ps qs : List L) (w : World) (hp : LinesAt w a ps) (hq : LinesAt w g qs) (hm : ps.length ≤ 1000) (hn : qs.length ≤ 1000) :
    Calls Tryz.prog 33 #[.slice a ps.length ca, .slice g qs.length cg] w (GivesEditsE (dfR ps qs) (dfC ps qs) w) := by
  have H1 := Lib.hid (fun w hp => validate_any a ca ps w hp)
  have H2 := Lib.hid (fun w hq => validate_any g cg qs w hq)
  have HF := Lib.hid (fun (W : World) => firstError_at W.heap.size (W.alloc (.cells #[.int .i64 (vp ps), .int .i64 (vp qs)] 28)) (vp ps) (vp qs) (ints_two _ _ _ _))
  by_cases hz : fe (vp ps) (vp qs) = 0
  · have h8 := (vp_ok (fe_0 hz).2).1
    by_cases hl : ps.length = qs.length
    · have HD := Lib.hid (fun w h h' => pdiff_any a g ca cg ps qs w h h' hl h8)
      have hdl : (dfL ps qs).length ≤ 8 := Nat.le_trans (dfTo_len ps qs qs.length) h8
      have hnn : ((ps.length : Int) != (qs.length : Int)) = false := by rw [hl]; simp
      by_cases h4 : 4 < (dfL ps qs).length
      · obtain ⟨e1, e2⟩ := dfC_3 hz hl h4
        rw [e1, e2]
        rw [hz] at HF
        have h5 : (4 : Int) < ((dfL ps qs).length : Int) := by omega
        clear e1 e2 hz hl h4 h8
        generalize hc1 : vp ps = c1 at HF H1
        generalize hc2 : vp qs = c2 at HF H2
        clear hc1 hc2
        generalize dfL ps qs = R at HD h5 hdl
        go_enter Tryz.func33, Tryz.ntmps33
        go_wp2_with fail
        refine (H1.out _ hp).mono ?_
        rintro e w1 ⟨rfl, hB⟩
        have HB := Lib.hid hB
        clear hB
        go_wp2_with fail
        refine (H2.out _ (hq.below HB.out (Nat.le_refl _))).mono ?_
        rintro e w2 ⟨rfl, hB⟩
        have HB2 := Lib.hid (HB.out.trans (hB.mono HB.out.size))
        clear hB
        go_wp2_with fail
        refine (HF.out _).mono ?_
        rintro e w3 ⟨rfl, hw3⟩
        have hB3 := HB2.out.alloc HB2.out.size (.cells #[.int .i64 c1, .int .i64 c2] 28)
        rw [hw3] at hB3
        have HB3 := Lib.hid hB3
        clear hB3 hw3 HB HB2
        go_wp2_with fail
        refine (HD.out _ (hp.below HB3.out (Nat.le_refl _)) (hq.below HB3.out (Nat.le_refl _))).mono ?_
        rintro e w4 ⟨v1, v2, rfl, ho, hB4⟩
        have HB4 := Lib.hid (HB3.out.trans (hB4.mono HB3.out.size))
        clear ho hB4
        go_wp2_with fail
        go_ret2
        exact givesEditsE_nil HB4.out
      · obtain ⟨e1, e2⟩ := dfC_0 hz hl h4
        rw [e1, e2]
        rw [hz] at HF
        have h5 : ¬ (4 : Int) < ((dfL ps qs).length : Int) := by omega
        clear e1 e2 hz hl h4 h8
        generalize hc1 : vp ps = c1 at HF H1
        generalize hc2 : vp qs = c2 at HF H2
        clear hc1 hc2
        generalize dfL ps qs = R at HD h5 hdl ⊢
        go_enter Tryz.func33, Tryz.ntmps33
        go_wp2_with fail
        refine (H1.out _ hp).mono ?_
        rintro e w1 ⟨rfl, hB⟩
        have HB := Lib.hid hB
        clear hB
        go_wp2_with fail
        refine (H2.out _ (hq.below HB.out (Nat.le_refl _))).mono ?_
        rintro e w2 ⟨rfl, hB⟩
        have HB2 := Lib.hid (HB.out.trans (hB.mono HB.out.size))
        clear hB
        go_wp2_with fail
        refine (HF.out _).mono ?_
        rintro e w3 ⟨rfl, hw3⟩
        have hB3 := HB2.out.alloc HB2.out.size (.cells #[.int .i64 c1, .int .i64 c2] 28)
        rw [hw3] at hB3
        have HB3 := Lib.hid hB3
        clear hB3 hw3 HB HB2
        go_wp2_with fail
        refine (HD.out _ (hp.below HB3.out (Nat.le_refl _)) (hq.below HB3.out (Nat.le_refl _))).mono ?_
        intro e w4 hG
        obtain ⟨v1, v2, rfl, ho, hB4⟩ := hG.wide HB3.out
        have HO := Lib.hid ho
        have HB4 := Lib.hid hB4
        clear hG ho hB4
        go_wp2_with fail
        go_ret2
        exact ⟨v1, v2, rfl, HO.out, HB4.out⟩
    · obtain ⟨e1, e2⟩ := dfC_2 hz hl
      rw [e1, e2]
      rw [hz] at HF
      have hne : ((ps.length : Int) != (qs.length : Int)) = true := bne_iff_ne.2 (by omega)
      clear e1 e2 hz hl h8
      generalize hc1 : vp ps = c1 at HF H1
      generalize hc2 : vp qs = c2 at HF H2
      clear hc1 hc2
      go_enter Tryz.func33, Tryz.ntmps33
      go_wp2_with fail
      refine (H1.out _ hp).mono ?_
      rintro e w1 ⟨rfl, hB⟩
      have HB := Lib.hid hB
      clear hB
      go_wp2_with fail
      refine (H2.out _ (hq.below HB.out (Nat.le_refl _))).mono ?_
      rintro e w2 ⟨rfl, hB⟩
      have HB2 := Lib.hid (HB.out.trans (hB.mono HB.out.size))
      clear hB
      go_wp2_with fail
      refine (HF.out _).mono ?_
      rintro e w3 ⟨rfl, hw3⟩
      have hB3 := HB2.out.alloc HB2.out.size (.cells #[.int .i64 c1, .int .i64 c2] 28)
      rw [hw3] at hB3
      have HB3 := Lib.hid hB3
      clear hB3 hw3 HB HB2
      go_wp2_with fail
      go_ret2
      exact givesEditsE_nil HB3.out
  · obtain ⟨e1, e2⟩ := dfC_1 hz
    rw [e1, e2]
    generalize fe (vp ps) (vp qs) = c at HF hz ⊢
    have hz1 : (c != 0) = true := by simpa using hz
    have hz2 : (c == 0) = false := by simpa using hz
    clear e1 e2 hz
    generalize hc1 : vp ps = c1 at HF H1
    generalize hc2 : vp qs = c2 at HF H2
    clear hc1 hc2
    go_enter Tryz.func33, Tryz.ntmps33
    go_wp2_with fail
    refine (H1.out _ hp).mono ?_
    rintro e w1 ⟨rfl, hB⟩
    have HB := Lib.hid hB
    clear hB
    go_wp2_with fail
    refine (H2.out _ (hq.below HB.out (Nat.le_refl _))).mono ?_
    rintro e w2 ⟨rfl, hB⟩
    have HB2 := Lib.hid (HB.out.trans (hB.mono HB.out.size))
    clear hB
    go_wp2_with fail
    refine (HF.out _).mono ?_
    rintro e w3 ⟨rfl, hw3⟩
    have hB3 := HB2.out.alloc HB2.out.size (.cells #[.int .i64 c1, .int .i64 c2] 28)
    rw [hw3] at hB3
    have HB3 := Lib.hid hB3
    clear hB3 hw3 HB HB2
    go_wp2_with fail
    go_ret2
    exact givesEditsE_nil HB3.out

end Go.Proofs.YtdcoebeffbkpnaaGreat

/- PatchDiffers: the walk. -/
set_option linter.unusedVariables false
set_option linter.unusedSimpArgs false
namespace Go.Proofs.YtdcoebeffbkpnaaGreat
open Go.RowKit Tinker

theorem dfr_facts {ps qs : List L} (h : dfC ps qs = 0) : vpx ps (dfR ps qs) 0 = 0 ∧ doP ps (dfR ps qs) = qs ∧ clQ ps (dfR ps qs) = dfR ps qs ∧ (dfR ps qs).length ≤ 4 := by
  obtain ⟨h1, h2, h3, h4⟩ := dfC_ok h
  have e : dfR ps qs = dfL ps qs := by unfold dfR; rw [if_pos h]
  have hv := df_vpx h
  rw [e]
  refine ⟨hv, by unfold doP; rw [if_pos hv]; exact do_df h3, ?_, h4⟩
  unfold clQ
  rw [if_pos hv, do_df h3]
theorem dfR_len (ps qs : List L) : (dfR ps qs).length ≤ qs.length := by
  unfold dfR
  split
  · exact dfTo_len ps qs qs.length
  · simp

end Go.Proofs.YtdcoebeffbkpnaaGreat

/- PatchThen: the walk. -/
set_option linter.unusedVariables false
set_option linter.unusedSimpArgs false
namespace Go.Proofs.YtdcoebeffbkpnaaGreat
open Go.RowKit Tinker

theorem tnR_len (xs ys : List E) : (tnR xs ys).length ≤ 8 := by
  unfold tnR
  split
  · exact mpTo_len _ 8
  · simp
theorem doP_len4 (ps : List L) (xs : List E) : (doP ps xs).length ≤ ps.length := by
  unfold doP
  split
  · rw [doL_len]; exact Nat.le_refl _
  · simp

end Go.Proofs.YtdcoebeffbkpnaaGreat

/- TopPatches: its facts. -/
set_option linter.unusedVariables false
set_option linter.unusedSimpArgs false
namespace Go.Proofs.YtdcoebeffbkpnaaGreat
open Go.RowKit Tinker

theorem tps_bad {ps : List L} {xs : List E} (h : ¬ vpx ps xs 0 = 0) : doP ps xs = [] ∧ szR ps xs = 0 := by
  unfold doP szR
  rw [if_neg h, if_neg h]
  exact ⟨rfl, rfl⟩
/-- What stands when a patch can be done. -/
theorem tps_do {ps : List L} {xs : List E} (h : vpx ps xs 0 = 0) : vpx (doP ps xs) (inR ps xs) 0 = 0 ∧ doP (doP ps xs) (inR ps xs) = ps ∧ dfC ps (doP ps xs) = 0 ∧ dfR ps (doP ps xs) = clQ ps xs ∧ (doP ps xs).length = ps.length ∧ vp (doP ps xs) = 0 ∧ ps.length ≤ 8 := by
  obtain ⟨u1, u2, u3, u4⟩ := und_facts h
  obtain ⟨k1, k2, k3⟩ := okX_at h
  have hv := doL_vp (okX_of h).v (okX_of h).ln
  have hc : clQ ps xs = dfL ps (doL ps xs) := by unfold clQ; rw [if_pos h]
  have hl : (dfL ps (doL ps xs)).length ≤ 4 := by
    rw [df_do (okD h) (fun e he => (k1 e he).1) (fun e he => (k1 e he).2)]
    have := (cl_sub ps xs).length_le
    omega
  have hd : dfC ps (doL ps xs) = 0 := by
    unfold dfC
    rw [(okX_of h).v, hv, if_pos (by rfl), if_pos (doL_len xs ps).symm, if_neg (by omega)]
  rw [u1, u2]
  exact ⟨inv_vpx h, u3, hd, by unfold dfR; rw [if_pos hd, hc], doL_len xs ps, hv, k2⟩
/-- A patch can be done to each program as long. -/
theorem vpx_other {ps qs : List L} {ys : List E} (h : vpx ps ys 0 = 0) (hv : vp qs = 0) (hl : qs.length = ps.length) : vpx qs ys 0 = 0 := by
  obtain ⟨h1, h2, h3, h4⟩ := vpx_ok h
  obtain ⟨k1, k2, k3⟩ := vx_ok h2
  unfold vpx
  rw [hv, h2, if_pos (by rfl), if_pos]
  refine allBtw_of fun n hn => ?_
  obtain ⟨e, he, rfl⟩ := List.mem_map.1 hn
  have a := (k3 e he).1
  have b := h4 e he
  omega
theorem tps_th {ps : List L} {xs ys : List E} (h1 : vpx ps xs 0 = 0) (h2 : vpx ps ys 0 = 0) : thC ps (doP ps xs) (doP ps ys) = 0 :=
  thC_of (okX_of h1).v (tps_do h1).2.2.2.2.2.1 (tps_do h2).2.2.2.2.2.1 (tps_do h1).2.2.2.2.1 (tps_do h2).2.2.2.2.1
theorem tps_two {ps : List L} {xs ys : List E} (h1 : vpx ps xs 0 = 0) (h2 : vpx ps ys 0 = 0) : vpx (doP ps xs) ys 0 = 0 :=
  vpx_other h2 (tps_do h1).2.2.2.2.2.1 (tps_do h1).2.2.2.2.1
theorem tps_then {ps : List L} {xs ys : List E} (h1 : vpx ps xs 0 = 0) (h2 : vpx ps ys 0 = 0) (h : tnE xs ys = 0) : vpx ps (tnR xs ys) 0 = 0 ∧ doP ps (tnR xs ys) = doP (doP ps xs) ys :=
  then_ok h h1 (tps_two h1 h2)
theorem do_at {ps : List L} {xs : List E} (h : vpx ps xs 0 = 0) {i : Nat} (hi : i < ps.length) : lnD (doP ps xs) i = (atX xs (i : Int)).getD (lnD ps i) := by
  obtain ⟨k1, k2, k3⟩ := okX_at h
  have hg := doL_get xs ps i (okD h) (fun e he => (k1 e he).1) hi
  unfold doP
  rw [if_pos h]
  exact lnD_at hg
/-- What can be merged has no conflict. -/
theorem tps_merge {ps : List L} {xs ys : List E} (h1 : vpx ps xs 0 = 0) (h2 : vpx ps ys 0 = 0) (h : mgC xs ys = 0) : tnE xs ys = 0 ∧ vpx ps (mgR xs ys) 0 = 0 ∧ doP ps (mgR xs ys) = thL ps (doP ps xs) (doP ps ys) ∧ thN ps (doP ps xs) (doP ps ys) = [] := by
  obtain ⟨_, ⟨t1, t2⟩, _⟩ := mg_ok h
  obtain ⟨u1, u2⟩ := tps_then h1 h2 t1
  have hth := tps_th h1 h2
  have hz : fe (vx xs) (vx ys) = 0 := by rw [(vpx_ok h1).2.1, (vpx_ok h2).2.1]; rfl
  have hno : xs.any (cfB (atX ys)) = false := by
    cases h5 : xs.any (cfB (atX ys))
    · rfl
    · rw [(mg_2 hz h5).1] at h; cases h
  have agree : ∀ (i : Int) (a b : L), atX xs i = some a → atX ys i = some b → a = b := by
    intro i a b ha hb
    obtain ⟨z, hzm, h3, h4⟩ := atX_some ha
    have hn := List.any_eq_false.1 hno z hzm
    rw [cfB_iff] at hn
    by_cases hlm : b = a
    · exact hlm.symm
    · exact absurd ⟨b, by rw [h3]; exact hb, by rw [h4]; exact hlm⟩ hn
  have hl1 := (tps_do h1).2.2.2.2.1
  have hl2 := (tps_do h2).2.2.2.2.1
  refine ⟨t1, by rw [← t2]; exact u1, ?_, ?_⟩
  · rw [← t2, u2]
    unfold thL
    rw [if_pos hth]
    have h12 := tps_two h1 h2
    have hlen : (doP (doP ps xs) ys).length = ps.length := by rw [(tps_do h12).2.2.2.2.1, hl1]
    refine lines_ext (by unfold thLto; rw [List.length_map, List.length_range, hlen]) fun i hi => ?_
    have hi2 : i < ps.length := by omega
    obtain ⟨l, hl⟩ := get_of_lt hi
    rw [hl]
    unfold thLto
    rw [List.getElem?_map, List.getElem?_range hi2]
    show _ = some (mlL (lnD ps i) (lnD (doP ps xs) i) (lnD (doP ps ys) i))
    rw [← lnD_at hl, do_at h12 (by omega), do_at h1 hi2, do_at h2 hi2]
    congr 1
    cases ha : atX xs (i : Int) with
    | none =>
      cases hb : atX ys (i : Int) with
      | none => show lnD ps i = mlL (lnD ps i) (lnD ps i) (lnD ps i); unfold mlL; rw [eqL_self]; rfl
      | some b => show b = mlL (lnD ps i) (lnD ps i) b; unfold mlL; rw [eqL_self]; cases hq : eqL b (lnD ps i) <;> simp [eqL_iff.1, hq]; exact eqL_iff.1 hq
    | some a =>
      cases hb : atX ys (i : Int) with
      | none => show a = mlL (lnD ps i) a (lnD ps i); unfold mlL; rw [eqL_self]; rfl
      | some b =>
        obtain rfl := agree _ _ _ ha hb
        show a = mlL (lnD ps i) a a
        unfold mlL; rw [eqL_self]; cases hq : eqL a (lnD ps i) <;> simp
  · unfold thN
    rw [if_pos hth]
    refine plc_nilA fun b hb => ?_
    unfold thBto at hb
    obtain ⟨i, hi, rfl⟩ := List.mem_map.1 hb
    have hi2 : i < ps.length := List.mem_range.1 hi
    rw [do_at h1 hi2, do_at h2 hi2]
    unfold mlB
    cases ha : atX xs (i : Int) with
    | none => simp [eqL_self]
    | some a =>
      cases hb : atX ys (i : Int) with
      | none => simp [eqL_self]
      | some b =>
        obtain rfl := agree _ _ _ ha hb
        simp [eqL_self]
theorem tps_trR_len (b : Bool) (ps : List L) (xs : List E) (ts : List T) : (trR b ps xs ts).length ≤ ts.length := by
  unfold trR
  split
  · exact tr_len _ _ _ _
  · simp
/-- What fails after a patch, and what does not. -/
theorem tps_fails {ps : List L} {xs : List E} {ts : List T} (h : vpx ps xs (vts ts) = 0) : vpt ps ts = 0 ∧ vpt (doP ps xs) ts = 0 ∧ (((pL false (doP ps xs) ts).length : Nat) : Int) = ((pL false ps ts).length : Nat) - ((trR false ps xs ts).length : Nat) + ((trR true ps xs ts).length : Nat) ∧ gdR ps xs ts = decide ((((pL false (doP ps xs) ts).length : Nat) : Int) = 0) ∧ (pL false (doP ps xs) ts).length ≤ ts.length ∧ (pL false ps ts).length ≤ ts.length ∧ (trR false ps xs ts).length ≤ (pL false ps ts).length := by
  obtain ⟨h1, h2, h3, h4⟩ := vpx_vpt h
  have e : doP ps xs = doL ps xs := by unfold doP; rw [if_pos h4]
  have e1 : ∀ b, trR b ps xs ts = trL b ps (doL ps xs) ts := fun b => by unfold trR; rw [if_pos h]
  rw [e, e1, e1]
  refine ⟨h1, h2, tr_count h1 h2, ?_, pL_le _ _ _, pL_le _ _ _, tr_count2 h1 h2⟩
  unfold gdR
  rw [if_pos h]
  exact (gd_fail (okX_of h) h3).symm
/-- What is reduced, and what is smallest. -/
theorem tps_good {ps : List L} {xs : List E} {ts : List T} (h : vpx ps xs (vts ts) = 0) (hg : gdR ps xs ts = true) : rdC ps xs ts = 0 ∧ (rdR ps xs ts).length ≤ xs.length ∧ vpx ps (rdR ps xs ts) (vts ts) = 0 ∧ gdR ps (rdR ps xs ts) ts = true ∧ ∃ z : List E, smR ps xs ts = some z ∧ z.length ≤ (rdR ps xs ts).length ∧ mnR ps z ts = true ∧ vpx ps z (vts ts) = 0 := by
  have h2 : gdB ps ts xs = true := by unfold gdR at hg; rwa [if_pos h] at hg
  have hc : rdC ps xs ts = 0 := by unfold rdC; rw [if_pos h, h2]; rfl
  have e : rdR ps xs ts = rdL (gdB ps ts) xs := by unfold rdR; rw [if_pos hc]
  have hv := vpx_sub4 h (rd_sub (gdB ps ts) xs)
  have hgd := rd_good h2
  have e2 : smR ps xs ts = smO (gdB ps ts) xs := by unfold smR; rw [if_pos h]
  refine ⟨hc, by rw [e]; exact (rd_sub _ _).length_le, by rw [e]; exact hv, by rw [e]; unfold gdR; rw [if_pos hv, hgd], ?_⟩
  rw [e, e2]
  cases hs : smO (gdB ps ts) xs with
  | none =>
    have := smO_none hs _ (List.Sublist.refl xs)
    rw [h2] at this
    cases this
  | some z =>
    have hz := vpx_sub4 h (smO_some hs).1
    refine ⟨z, rfl, smO_le hs (rd_sub _ _) hgd, ?_, hz⟩
    unfold mnR
    rw [if_pos hz, mn_eq]
    exact sm_min hs
/-- All that the end of the walk asks for. -/
theorem tps_tail {ps : List L} {xs : List E} {ts : List T} (h : vpx ps xs (vts ts) = 0) :
    (vpt ps ts = 0 ∧ vpt (doP ps xs) ts = 0 ∧ (pL false (doP ps xs) ts).length ≤ ts.length ∧ (pL false ps ts).length ≤ ts.length ∧ (trR false ps xs ts).length ≤ (pL false ps ts).length ∧ (trR true ps xs ts).length ≤ ts.length ∧
      ((((pL false (doP ps xs) ts).length : Nat) : Int) != (((pL false ps ts).length : Nat) : Int) - ((trR false ps xs ts).length : Nat) + ((trR true ps xs ts).length : Nat)) = false) ∧
    ((gdR ps xs ts = false ∧ ((((pL false (doP ps xs) ts).length : Nat) : Int) == 0) = false ∧ decide ((((pL false (doP ps xs) ts).length : Nat) : Int) = 0) = false) ∨
     (gdR ps xs ts = true ∧ ((((pL false (doP ps xs) ts).length : Nat) : Int) == 0) = true ∧ decide ((((pL false (doP ps xs) ts).length : Nat) : Int) = 0) = true ∧
      rdC ps xs ts = 0 ∧ vpx ps (rdR ps xs ts) (vts ts) = 0 ∧ gdR ps (rdR ps xs ts) ts = true ∧ (rdR ps xs ts).length ≤ xs.length ∧
      ∃ z : List E, smR ps xs ts = some z ∧ z.length ≤ (rdR ps xs ts).length ∧ mnR ps z ts = true ∧ vpx ps z (vts ts) = 0)) := by
  obtain ⟨f1, f2, f3, f4, f5, f6, f7⟩ := tps_fails h
  refine ⟨⟨f1, f2, f5, f6, f7, tps_trR_len true ps xs ts, by simpa using f3⟩, ?_⟩
  by_cases hg : gdR ps xs ts = true
  · right
    obtain ⟨g1, g2, g3, g4, z, g5, g6, g7, g8⟩ := tps_good h hg
    rw [hg] at f4
    have y := of_decide_eq_true f4.symm
    exact ⟨hg, by rw [y]; rfl, f4.symm, g1, g3, g4, g2, z, g5, g6, g7, g8⟩
  · left
    have hg' : gdR ps xs ts = false := by simpa using hg
    rw [hg'] at f4
    exact ⟨hg', by simpa using f4, f4.symm⟩

end Go.Proofs.YtdcoebeffbkpnaaGreat
