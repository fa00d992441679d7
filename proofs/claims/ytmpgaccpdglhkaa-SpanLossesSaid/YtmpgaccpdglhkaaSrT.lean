/- boxed, after, After, Before of the document: contracts. -/
import Derived.Test.YtmpgaccpdglhkaaSrS
import Derived.Test.YtmpgaccpdglhkaaSpN
import Derived.Test.YtmpgaccpdglhkaaRefB
set_option linter.unusedVariables false
set_option linter.unusedSimpArgs false
namespace Go.Proofs.Ytmpgaccpdglhkaa
open Go.RowKit Tinker

theorem hullF_hO {b0 : List Rg} {bs : List (List Rg)} : hO (b0 :: bs) = some (hullF b0 bs) := rfl
/-- A line's boxes, as the document reads them. -/
theorem dL_row {ps : List L} {b y : List Rg} {k : Nat} (hv : vp ps = 0) (hb : OkB b) (h : (spL ps b).getD k none = some y) :
    ∃ b0 bs, (dL ps b).getD k [] = b0 :: bs ∧ hullF b0 bs = y ∧ b0.length = 4 ∧ (∀ z ∈ bs, z.length = 4) ∧ bs.length ≤ 100 := by
  obtain ⟨h8, hvl⟩ := vp_ok hv
  have hd := okD_at hvl hb ps.length
  have h1 := dL_get ps b k
  rw [h] at h1
  have ok := hd.ok k
  have few := hd.few k
  have e : (dAt ps b ps.length).getD k [] = (dL ps b).getD k [] := rfl
  rw [e] at ok few
  cases hr : (dL ps b).getD k [] with
  | nil => rw [hr] at h1; simp [hO] at h1
  | cons b0 bs =>
    rw [hr] at h1 ok few
    simp only [hO, Option.some.injEq] at h1
    rw [List.length_cons] at few
    exact ⟨b0, bs, rfl, h1, (ok b0 (by simp)).l4, fun z hz => (ok z (by simp [hz])).l4, by omega⟩
theorem dL_none {ps : List L} {b : List Rg} {k : Nat} (h : (spL ps b).getD k none = none) : (dL ps b).getD k [] = [] := by
  have h1 := dL_get ps b k
  rw [h] at h1
  cases hr : (dL ps b).getD k [] with
  | nil => rfl
  | cons b0 bs => rw [hr] at h1; simp [hO] at h1
theorem dL_len (ps : List L) (b : List Rg) : (dL ps b).length = ps.length + 1 := dAt_len ps b ps.length
/-- What comes to line k, of the boxes in memory. -/
theorem DocI.hull {w : World} {M : Nat} {xs : List Value} {W : World} {ps : List L} {b y : List Rg} {k : Nat} (h : DocI w M (dL ps b) xs W) (hk : k ≤ ps.length) (hv : vp ps = 0) (hb : OkB b) (hy : (spL ps b).getD k none = some y) :
    ∃ n a c, W.cell? ⟨M, k, none⟩ = some (.slice a (n + 1) c) ∧ ∀ W', Below W.heap.size W W' → Calls Try.prog 50 #[.slice a (n + 1) c] W' (GivesRg y W') := by
  obtain ⟨b0, bs, h1, h2, h3, h4, h5⟩ := dL_row hv hb hy
  obtain ⟨n, a, c, ys, hn, -, hc, -, -, hbx⟩ := h.at_ (j := k) (by rw [dL_len]; omega)
  rw [h1, List.length_cons] at hn
  subst hn
  rw [h1] at hbx
  refine ⟨bs.length, a, c, hc, fun W' hB => ?_⟩
  have := rhull_any a c b0 bs W' (hbx.below hB (Nat.le_refl _)) h3 h4 h5
  rwa [h2] at this
theorem DocI.bare {w : World} {M : Nat} {xs : List Value} {W : World} {ps : List L} {b : List Rg} {k : Nat} (h : DocI w M (dL ps b) xs W) (hk : k ≤ ps.length) (hy : (spL ps b).getD k none = none) :
    ∃ a c, W.cell? ⟨M, k, none⟩ = some (.slice a 0 c) := by
  obtain ⟨n, a, c, ys, hn, -, hc, -, -, -⟩ := h.at_ (j := k) (by rw [dL_len]; omega)
  rw [dL_none hy] at hn
  subst hn
  exact ⟨a, c, hc⟩

set_option maxRecDepth 100000 in
set_option maxHeartbeats 2000000 in
theorem rboxed_any (a a2 : Option Addr) (ca c2 : Nat) (ps : List L) (b : List Rg) (w : World) (hp : LinesAt w a ps) (hr : RangesAt w a2 b) :
    Calls Try.prog 44 #[.slice a ps.length ca, .slice a2 b.length c2] w fun e w' => e = .returned (.int .i64 (fe (vp ps) (vb b))) ∧ Below w.heap.size w w' := by
  have H1 := Lib.hid (rValidate_any a ca ps w hp)
  have H2 := Lib.hid (fun w h => rValidate6_any a2 c2 b w h)
  have HR := Lib.hid hr
  by_cases hz : vp ps = 0
  · rw [hz] at H1
    rw [hz, show fe 0 (vb b) = vb b from rfl]
    clear hz hp hr
    go_enter Try.func44, Try.ntmps44
    go_wp2_with fail
    refine H1.out.mono ?_
    rintro e w1 ⟨rfl, hB⟩
    have HB := Lib.hid hB
    clear hB
    go_wp2_with fail
    refine (H2.out _ (HR.out.below HB.out (Nat.le_refl _))).mono ?_
    rintro e w2 ⟨rfl, hB⟩
    have HB2 := Lib.hid (HB.out.trans (hB.mono HB.out.size))
    clear hB
    go_wp2_with fail
    go_ret
    exact ⟨rfl, HB2.out⟩
  · rw [show fe (vp ps) (vb b) = vp ps by unfold fe; rw [if_neg hz]]
    have hz1 : (vp ps != 0) = true := by simpa using hz
    have hz2 : (vp ps == 0) = false := by simpa using hz
    generalize vp ps = c at *
    clear hz hp hr
    go_enter Try.func44, Try.ntmps44
    go_wp2_with fail
    refine H1.out.mono ?_
    rintro e w1 ⟨rfl, hB⟩
    have HB := Lib.hid hB
    clear hB
    go_wp2_with fail
    go_ret
    exact ⟨rfl, HB.out⟩

set_option maxRecDepth 100000 in
set_option maxHeartbeats 2000000 in
theorem rafter_any (a a2 : Option Addr) (ca c2 : Nat) (ps : List L) (b : List Rg) (w : World) (hp : LinesAt w a ps) (hr : RangesAt w a2 b) (hv : vp ps = 0) (hb : OkB b) :
    Calls Try.prog 45 #[.slice a ps.length ca, .slice a2 b.length c2] w (GivesRg (endB ps b) w) := by
  have HS := Lib.hid (rspans_any a a2 ca c2 ps b w hp hr hv hb)
  have HE := Lib.hid (fun M xs W (h : DocI w M (dL ps b) xs W) => h.hull (Nat.le_refl _) hv hb (end_some (vp_ok hv).2 hb))
  have HL := Lib.hid (dL_len ps b)
  have hlt : (ps.length : Int) < (ps.length : Int) + 1 := by omega
  generalize endB ps b = y at *
  generalize dL ps b = st at *
  clear hp hr hv hb
  go_enter Try.func45, Try.ntmps45
  go_wp2_with fail
  refine HS.out.mono ?_
  rintro e w1 ⟨M, xs, rfl, hD⟩
  obtain ⟨n, a', c', hc, hh⟩ := HE.out M xs w1 hD
  rw [HL.out]
  have HH := Lib.hid hh
  have HB := Lib.hid hD.below
  clear hh hD
  go_wp2_with fail
  refine (HH.out _ (Below.refl _ _)).mono ?_
  intro e w2 hG
  obtain ⟨a3, c3, rfl, hown, hB⟩ := hG.wide HB.out
  have HO := Lib.hid hown
  clear hown hG
  go_wp2_with fail
  go_ret
  exact ⟨a3, c3, rfl, HO.out, hB⟩

set_option maxRecDepth 100000 in
set_option maxHeartbeats 2000000 in
theorem rAfter_any (a a2 : Option Addr) (ca c2 : Nat) (ps : List L) (b : List Rg) (w : World) (hp : LinesAt w a ps) (hr : RangesAt w a2 b) :
    Calls Try.prog 12 #[.slice a ps.length ca, .slice a2 b.length c2] w (GivesRgE (afA ps b) (fe (vp ps) (vb b)) w) := by
  have HV := Lib.hid (rboxed_any a a2 ca c2 ps b w hp hr)
  have HP := Lib.hid hp
  have HR := Lib.hid hr
  by_cases hz : fe (vp ps) (vb b) = 0
  · obtain ⟨z1, z2⟩ := fe_zero hz
    have hok := vb_ok z2
    rw [show afA ps b = endB ps b by unfold afA; rw [if_pos hz], hz]
    have HA := Lib.hid (fun w h1 h2 => rafter_any a a2 ca c2 ps b w h1 h2 z1 hok)
    rw [hz] at HV
    generalize endB ps b = M at *
    clear hz z1 z2 hok hp hr
    go_enter Try.func12, Try.ntmps12
    go_wp2_with fail
    refine HV.out.mono ?_
    rintro e w1 ⟨rfl, hB⟩
    have HB0 := Lib.hid hB
    clear hB
    go_wp2_with fail
    refine (HA.out _ (HP.out.below HB0.out (Nat.le_refl _)) (HR.out.below HB0.out (Nat.le_refl _))).mono ?_
    intro e w6 hG
    obtain ⟨a', c', rfl, hown, hB8⟩ := hG.wide HB0.out
    have HO := Lib.hid hown
    clear hown hG
    go_wp2_with fail
    go_ret2
    exact ⟨a', c', rfl, HO.out, hB8⟩
  · rw [show afA ps b = [] by unfold afA; rw [if_neg hz]]
    have hz1 : (fe (vp ps) (vb b) != 0) = true := by simpa using hz
    have hz2 : (fe (vp ps) (vb b) == 0) = false := by simpa using hz
    generalize fe (vp ps) (vb b) = c at *
    clear hz hp hr
    go_enter Try.func12, Try.ntmps12
    go_wp2_with fail
    refine HV.out.mono ?_
    rintro e w1 ⟨rfl, hB⟩
    have HB0 := Lib.hid hB
    clear hB
    go_wp2_with fail
    go_ret2
    exact givesRgE_nil HB0.out

set_option maxRecDepth 100000 in
set_option maxHeartbeats 2000000 in
theorem rBefore_any (a a2 : Option Addr) (ca c2 : Nat) (ps : List L) (b : List Rg) (n : Int) (w : World) (hp : LinesAt w a ps) (hr : RangesAt w a2 b) (hm : ps.length ≤ 1000) :
    Calls Try.prog 14 #[.slice a ps.length ca, .slice a2 b.length c2, .int .i64 n] w (GivesRgB ((bfX ps b n).getD []) (bfX ps b n).isSome (bfC ps b n) w) := by
  have HV := Lib.hid (rboxed_any a a2 ca c2 ps b w hp hr)
  have HP := Lib.hid hp
  have HR := Lib.hid hr
  by_cases hz : fe (vp ps) (vb b) = 0
  · obtain ⟨z1, z2⟩ := fe_zero hz
    have hok := vb_ok z2
    rw [hz] at HV
    cases hbt : btw n 0 ((ps.length : Int) - 1)
    · have HBT := Lib.hid hbt
      have hc : bfC ps b n = 4 := by unfold bfC; rw [if_pos hz, hbt]; rfl
      have hxx : bfX ps b n = none := by unfold bfX; rw [hc]; rfl
      rw [hc, hxx]
      clear hz z1 z2 hok hp hr hbt hc hxx
      go_enter Try.func14, Try.ntmps14
      go_wp2_with fail
      refine HV.out.mono ?_
      rintro e w1 ⟨rfl, hB⟩
      have HB := Lib.hid hB
      clear hB
      go_wp2_with fail
      refine (rWithin6_any _ _ _ _).mono ?_
      rintro e w0 ⟨rfl, rfl⟩
      rw [HBT.out]
      go_wp2_with fail
      go_ret3
      exact givesRgB_nil HB.out
    · have HBT := Lib.hid hbt
      have hbb := btw_true.1 hbt
      obtain ⟨k, rfl⟩ : ∃ k : Nat, n = (k : Int) := ⟨n.toNat, by omega⟩
      have hc : bfC ps b k = 0 := by unfold bfC; rw [if_pos hz, hbt]; rfl
      have hxx : bfX ps b k = (spL ps b).getD k none := by unfold bfX; rw [hc]; rfl
      rw [hc, hxx]
      have HS := Lib.hid (fun w h1 h2 => rspans_any a a2 ca c2 ps b w h1 h2 z1 hok)
      have HL := Lib.hid (dL_len ps b)
      have hlt : k < ps.length := by omega
      have hk1 : (k : Int) < (ps.length : Int) + 1 := by omega
      cases hx : (spL ps b).getD k none with
      | none =>
        have HE := Lib.hid (fun w M xs W (h : DocI w M (dL ps b) xs W) => h.bare (k := k) (by omega) hx)
        generalize dL ps b = st at *
        clear hz z1 z2 hok hp hr hbt hc hxx hx
        go_enter Try.func14, Try.ntmps14
        go_wp2_with fail
        refine HV.out.mono ?_
        rintro e w1 ⟨rfl, hB⟩
        have HB := Lib.hid hB
        clear hB
        go_wp2_with fail
        refine (rWithin6_any _ _ _ _).mono ?_
        rintro e w0 ⟨rfl, rfl⟩
        rw [HBT.out]
        go_wp2_with fail
        refine (HS.out _ (HP.out.below HB.out (Nat.le_refl _)) (HR.out.below HB.out (Nat.le_refl _))).mono ?_
        rintro e w3 ⟨M, xs, rfl, hD⟩
        rw [HL.out]
        obtain ⟨a', c', hc⟩ := HE.out _ M xs w3 hD
        have HB3 := Lib.hid (HB.out.trans (hD.below.mono HB.out.size))
        clear hD
        go_wp2_with fail
        go_ret3
        exact givesRgB_nil HB3.out
      | some y =>
        have HE := Lib.hid (fun w M xs W (h : DocI w M (dL ps b) xs W) => h.hull (k := k) (by omega) z1 hok hx)
        generalize dL ps b = st at *
        clear hz z1 z2 hok hp hr hbt hc hxx hx
        go_enter Try.func14, Try.ntmps14
        go_wp2_with fail
        refine HV.out.mono ?_
        rintro e w1 ⟨rfl, hB⟩
        have HB := Lib.hid hB
        clear hB
        go_wp2_with fail
        refine (rWithin6_any _ _ _ _).mono ?_
        rintro e w0 ⟨rfl, rfl⟩
        rw [HBT.out]
        go_wp2_with fail
        refine (HS.out _ (HP.out.below HB.out (Nat.le_refl _)) (HR.out.below HB.out (Nat.le_refl _))).mono ?_
        rintro e w3 ⟨M, xs, rfl, hD⟩
        rw [HL.out]
        obtain ⟨n, a', c', hc, hh⟩ := HE.out _ M xs w3 hD
        have HH := Lib.hid hh
        have HB3 := Lib.hid (HB.out.trans (hD.below.mono HB.out.size))
        have hn1 : ((n : Int) + 1 == 0) = false := by rw [beq_eq_false_iff_ne]; omega
        clear hD hh
        go_wp2_with fail
        refine (HH.out _ (Below.refl _ _)).mono ?_
        intro e w6 hG
        obtain ⟨a3, c3, rfl, hown, hB8⟩ := hG.wide HB3.out
        have HO := Lib.hid hown
        clear hown hG
        go_wp2_with fail
        go_ret3
        exact ⟨a3, c3, rfl, HO.out, hB8⟩
  · have hc : bfC ps b n = fe (vp ps) (vb b) := by unfold bfC; rw [if_neg hz]
    have hxx : bfX ps b n = none := by unfold bfX; rw [if_neg (by rw [hc]; exact hz)]
    rw [hc, hxx]
    have hz1 : (fe (vp ps) (vb b) != 0) = true := by simpa using hz
    have hz2 : (fe (vp ps) (vb b) == 0) = false := by simpa using hz
    generalize fe (vp ps) (vb b) = c at *
    clear hz hp hr hc hxx
    go_enter Try.func14, Try.ntmps14
    go_wp2_with fail
    refine HV.out.mono ?_
    rintro e w1 ⟨rfl, hB⟩
    have HB := Lib.hid hB
    clear hB
    go_wp2_with fail
    go_ret3
    exact givesRgB_nil HB.out

end Go.Proofs.Ytmpgaccpdglhkaa
