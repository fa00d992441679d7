/- Several texts in one. -/
import Derived.Test.YtmpgaccpdglhkaaSrS
import Derived.Test.YtmpgaccpdglhkaaSpN
import Derived.Test.YtmpgaccpdglhkaaRefB
import Derived.Test.YtmpgaccpdglhkaaTabB
/- boxed, after, After, Before of the document: contracts. -/
set_option linter.unusedVariables false
set_option linter.unusedSimpArgs false
namespace Go.Proofs.Ytmpgaccpdglhkaa
open Go.RowKit Tinker

theorem hullF_hO {b0 : List Rg} {bs : List (List Rg)} : hO (b0 :: bs) = some (hullF b0 bs) := rfl
/-- A line's boxes, as the document reads them. -/
theorem dL_row {ps : List L} {b y : List Rg} {k : Nat} (hv : vp ps = 0) (hb : OkB b) (h : (spL ps b).getD k none = some y) :
    ∃ b0 bs, (dL ps b).getD k [] = b0 :: bs ∧ hullF b0 bs = y ∧ b0.length = 4 ∧ (∀ z ∈ bs, z.length = 4) ∧ bs.length ≤ 100 := by
  obtain ⟨h8, hvl⟩ := vp_ok hv
  have hd := okD_at hvl hb ps.length
  have h1 := dL_get ps b k
  rw [h] at h1
  have ok := hd.ok k
  have few := hd.few k
  have e : (dAt ps b ps.length).getD k [] = (dL ps b).getD k [] := rfl
  rw [e] at ok few
  cases hr : (dL ps b).getD k [] with
  | nil => rw [hr] at h1; simp [hO] at h1
  | cons b0 bs =>
    rw [hr] at h1 ok few
    simp only [hO, Option.some.injEq] at h1
    rw [List.length_cons] at few
    exact ⟨b0, bs, rfl, h1, (ok b0 (by simp)).l4, fun z hz => (ok z (by simp [hz])).l4, by omega⟩
theorem dL_none {ps : List L} {b : List Rg} {k : Nat} (h : (spL ps b).getD k none = none) : (dL ps b).getD k [] = [] := by
  have h1 := dL_get ps b k
  rw [h] at h1
  cases hr : (dL ps b).getD k [] with
  | nil => rfl
  | cons b0 bs => rw [hr] at h1; simp [hO] at h1
theorem dL_len (ps : List L) (b : List Rg) : (dL ps b).length = ps.length + 1 := dAt_len ps b ps.length
/-- What comes to line k, of the boxes in memory. -/
theorem DocI.hull {w : World} {M : Nat} {xs : List Value} {W : World} {ps : List L} {b y : List Rg} {k : Nat} (h : DocI w M (dL ps b) xs W) (hk : k ≤ ps.length) (hv : vp ps = 0) (hb : OkB b) (hy : (spL ps b).getD k none = some y) :
    ∃ n a c, W.cell? ⟨M, k, none⟩ = some (.slice a (n + 1) c) ∧ ∀ W', Below W.heap.size W W' → Calls Try.prog 50 #[.slice a (n + 1) c] W' (GivesRg y W') := by
  obtain ⟨b0, bs, h1, h2, h3, h4, h5⟩ := dL_row hv hb hy
  obtain ⟨n, a, c, ys, hn, -, hc, -, -, hbx⟩ := h.at_ (j := k) (by rw [dL_len]; omega)
  rw [h1, List.length_cons] at hn
  subst hn
  rw [h1] at hbx
  refine ⟨bs.length, a, c, hc, fun W' hB => ?_⟩
  have := rhull_any a c b0 bs W' (hbx.below hB (Nat.le_refl _)) h3 h4 h5
  rwa [h2] at this
theorem DocI.bare {w : World} {M : Nat} {xs : List Value} {W : World} {ps : List L} {b : List Rg} {k : Nat} (h : DocI w M (dL ps b) xs W) (hk : k ≤ ps.length) (hy : (spL ps b).getD k none = none) :
    ∃ a c, W.cell? ⟨M, k, none⟩ = some (.slice a 0 c) := by
  obtain ⟨n, a, c, ys, hn, -, hc, -, -, -⟩ := h.at_ (j := k) (by rw [dL_len]; omega)
  rw [dL_none hy] at hn
  subst hn
  exact ⟨a, c, hc⟩

set_option maxRecDepth 100000 in
set_option maxHeartbeats 2000000 in
theorem rboxed_any (a a2 : Option Addr) (ca c2 : Nat) (ps : List L) (b : List Rg) (w : World) (hp : LinesAt w a ps) (hr : RangesAt w a2 b) :
    Calls Try.prog 44 #[.slice a ps.length ca, .slice a2 b.length c2] w fun e w' => e = .returned (.int .i64 (fe (vp ps) (vb b))) ∧ Below w.heap.size w w' := by
  have H1 := Lib.hid (rValidate_any a ca ps w hp)
  have H2 := Lib.hid (fun w h => rValidate6_any a2 c2 b w h)
  have HR := Lib.hid hr
  by_cases hz : vp ps = 0
  · rw [hz] at H1
    rw [hz, show fe 0 (vb b) = vb b from rfl]
    clear hz hp hr
    go_enter Try.func44, Try.ntmps44
    go_wp2_with fail
    refine H1.out.mono ?_
    rintro e w1 ⟨rfl, hB⟩
    have HB := Lib.hid hB
    clear hB
    go_wp2_with fail
    refine (H2.out _ (HR.out.below HB.out (Nat.le_refl _))).mono ?_
    rintro e w2 ⟨rfl, hB⟩
    have HB2 := Lib.hid (HB.out.trans (hB.mono HB.out.size))
    clear hB
    go_wp2_with fail
    go_ret
    exact ⟨rfl, HB2.out⟩
  · rw [show fe (vp ps) (vb b) = vp ps by unfold fe; rw [if_neg hz]]
    have hz1 : (vp ps != 0) = true := by simpa using hz
    have hz2 : (vp ps == 0) = false := by simpa using hz
    generalize vp ps = c at *
    clear hz hp hr
    go_enter Try.func44, Try.ntmps44
    go_wp2_with fail
    refine H1.out.mono ?_
    rintro e w1 ⟨rfl, hB⟩
    have HB := Lib.hid hB
    clear hB
    go_wp2_with fail
    go_ret
    exact ⟨rfl, HB.out⟩

set_option maxRecDepth 100000 in
set_option maxHeartbeats 2000000 in
theorem rafter_any (a a2 : Option Addr) (ca c2 : Nat) (ps : List L) (b : List Rg) (w : World) (hp : LinesAt w a ps) (hr : RangesAt w a2 b) (hv : vp ps = 0) (hb : OkB b) :
    Calls Try.prog 45 #[.slice a ps.length ca, .slice a2 b.length c2] w (GivesRg (endB ps b) w) := by
  have HS := Lib.hid (rspans_any a a2 ca c2 ps b w hp hr hv hb)
  have HE := Lib.hid (fun M xs W (h : DocI w M (dL ps b) xs W) => h.hull (Nat.le_refl _) hv hb (end_some (vp_ok hv).2 hb))
  have HL := Lib.hid (dL_len ps b)
  have hlt : (ps.length : Int) < (ps.length : Int) + 1 := by omega
  generalize endB ps b = y at *
  generalize dL ps b = st at *
  clear hp hr hv hb
  go_enter Try.func45, Try.ntmps45
  go_wp2_with fail
  refine HS.out.mono ?_
  rintro e w1 ⟨M, xs, rfl, hD⟩
  obtain ⟨n, a', c', hc, hh⟩ := HE.out M xs w1 hD
  rw [HL.out]
  have HH := Lib.hid hh
  have HB := Lib.hid hD.below
  clear hh hD
  go_wp2_with fail
  refine (HH.out _ (Below.refl _ _)).mono ?_
  intro e w2 hG
  obtain ⟨a3, c3, rfl, hown, hB⟩ := hG.wide HB.out
  have HO := Lib.hid hown
  clear hown hG
  go_wp2_with fail
  go_ret
  exact ⟨a3, c3, rfl, HO.out, hB⟩

set_option maxRecDepth 100000 in
set_option maxHeartbeats 2000000 in
theorem rAfter_any (a a2 : Option Addr) (ca c2 : Nat) (ps : List L) (b : List Rg) (w : World) (hp : LinesAt w a ps) (hr : RangesAt w a2 b) :
    Calls Try.prog 12 #[.slice a ps.length ca, .slice a2 b.length c2] w (GivesRgE (afA ps b) (fe (vp ps) (vb b)) w) := by
  have HV := Lib.hid (rboxed_any a a2 ca c2 ps b w hp hr)
  have HP := Lib.hid hp
  have HR := Lib.hid hr
  by_cases hz : fe (vp ps) (vb b) = 0
  · obtain ⟨z1, z2⟩ := fe_zero hz
    have hok := vb_ok z2
    rw [show afA ps b = endB ps b by unfold afA; rw [if_pos hz], hz]
    have HA := Lib.hid (fun w h1 h2 => rafter_any a a2 ca c2 ps b w h1 h2 z1 hok)
    rw [hz] at HV
    generalize endB ps b = M at *
    clear hz z1 z2 hok hp hr
    go_enter Try.func12, Try.ntmps12
    go_wp2_with fail
    refine HV.out.mono ?_
    rintro e w1 ⟨rfl, hB⟩
    have HB0 := Lib.hid hB
    clear hB
    go_wp2_with fail
    refine (HA.out _ (HP.out.below HB0.out (Nat.le_refl _)) (HR.out.below HB0.out (Nat.le_refl _))).mono ?_
    intro e w6 hG
    obtain ⟨a', c', rfl, hown, hB8⟩ := hG.wide HB0.out
    have HO := Lib.hid hown
    clear hown hG
    go_wp2_with fail
    go_ret2
    exact ⟨a', c', rfl, HO.out, hB8⟩
  · rw [show afA ps b = [] by unfold afA; rw [if_neg hz]]
    have hz1 : (fe (vp ps) (vb b) != 0) = true := by simpa using hz
    have hz2 : (fe (vp ps) (vb b) == 0) = false := by simpa using hz
    generalize fe (vp ps) (vb b) = c at *
    clear hz hp hr
    go_enter Try.func12, Try.ntmps12
    go_wp2_with fail
    refine HV.out.mono ?_
    rintro e w1 ⟨rfl, hB⟩
    have HB0 := Lib.hid hB
    clear hB
    go_wp2_with fail
    go_ret2
    exact givesRgE_nil HB0.out

set_option maxRecDepth 100000 in
set_option maxHeartbeats 2000000 in
theorem rBefore_any (a a2 : Option Addr) (ca c2 : Nat) (ps : List L) (b : List Rg) (n : Int) (w : World) (hp : LinesAt w a ps) (hr : RangesAt w a2 b) (hm : ps.length ≤ 1000) :
    Calls Try.prog 14 #[.slice a ps.length ca, .slice a2 b.length c2, .int .i64 n] w (GivesRgB ((bfX ps b n).getD []) (bfX ps b n).isSome (bfC ps b n) w) := by
  have HV := Lib.hid (rboxed_any a a2 ca c2 ps b w hp hr)
  have HP := Lib.hid hp
  have HR := Lib.hid hr
  by_cases hz : fe (vp ps) (vb b) = 0
  · obtain ⟨z1, z2⟩ := fe_zero hz
    have hok := vb_ok z2
    rw [hz] at HV
    cases hbt : btw n 0 ((ps.length : Int) - 1)
    · have HBT := Lib.hid hbt
      have hc : bfC ps b n = 4 := by unfold bfC; rw [if_pos hz, hbt]; rfl
      have hxx : bfX ps b n = none := by unfold bfX; rw [hc]; rfl
      rw [hc, hxx]
      clear hz z1 z2 hok hp hr hbt hc hxx
      go_enter Try.func14, Try.ntmps14
      go_wp2_with fail
      refine HV.out.mono ?_
      rintro e w1 ⟨rfl, hB⟩
      have HB := Lib.hid hB
      clear hB
      go_wp2_with fail
      refine (rWithin6_any _ _ _ _).mono ?_
      rintro e w0 ⟨rfl, rfl⟩
      rw [HBT.out]
      go_wp2_with fail
      go_ret3
      exact givesRgB_nil HB.out
    · have HBT := Lib.hid hbt
      have hbb := btw_true.1 hbt
      obtain ⟨k, rfl⟩ : ∃ k : Nat, n = (k : Int) := ⟨n.toNat, by omega⟩
      have hc : bfC ps b k = 0 := by unfold bfC; rw [if_pos hz, hbt]; rfl
      have hxx : bfX ps b k = (spL ps b).getD k none := by unfold bfX; rw [hc]; rfl
      rw [hc, hxx]
      have HS := Lib.hid (fun w h1 h2 => rspans_any a a2 ca c2 ps b w h1 h2 z1 hok)
      have HL := Lib.hid (dL_len ps b)
      have hlt : k < ps.length := by omega
      have hk1 : (k : Int) < (ps.length : Int) + 1 := by omega
      cases hx : (spL ps b).getD k none with
      | none =>
        have HE := Lib.hid (fun w M xs W (h : DocI w M (dL ps b) xs W) => h.bare (k := k) (by omega) hx)
        generalize dL ps b = st at *
        clear hz z1 z2 hok hp hr hbt hc hxx hx
        go_enter Try.func14, Try.ntmps14
        go_wp2_with fail
        refine HV.out.mono ?_
        rintro e w1 ⟨rfl, hB⟩
        have HB := Lib.hid hB
        clear hB
        go_wp2_with fail
        refine (rWithin6_any _ _ _ _).mono ?_
        rintro e w0 ⟨rfl, rfl⟩
        rw [HBT.out]
        go_wp2_with fail
        refine (HS.out _ (HP.out.below HB.out (Nat.le_refl _)) (HR.out.below HB.out (Nat.le_refl _))).mono ?_
        rintro e w3 ⟨M, xs, rfl, hD⟩
        rw [HL.out]
        obtain ⟨a', c', hc⟩ := HE.out _ M xs w3 hD
        have HB3 := Lib.hid (HB.out.trans (hD.below.mono HB.out.size))
        clear hD
        go_wp2_with fail
        go_ret3
        exact givesRgB_nil HB3.out
      | some y =>
        have HE := Lib.hid (fun w M xs W (h : DocI w M (dL ps b) xs W) => h.hull (k := k) (by omega) z1 hok hx)
        generalize dL ps b = st at *
        clear hz z1 z2 hok hp hr hbt hc hxx hx
        go_enter Try.func14, Try.ntmps14
        go_wp2_with fail
        refine HV.out.mono ?_
        rintro e w1 ⟨rfl, hB⟩
        have HB := Lib.hid hB
        clear hB
        go_wp2_with fail
        refine (rWithin6_any _ _ _ _).mono ?_
        rintro e w0 ⟨rfl, rfl⟩
        rw [HBT.out]
        go_wp2_with fail
        refine (HS.out _ (HP.out.below HB.out (Nat.le_refl _)) (HR.out.below HB.out (Nat.le_refl _))).mono ?_
        rintro e w3 ⟨M, xs, rfl, hD⟩
        rw [HL.out]
        obtain ⟨n, a', c', hc, hh⟩ := HE.out _ M xs w3 hD
        have HH := Lib.hid hh
        have HB3 := Lib.hid (HB.out.trans (hD.below.mono HB.out.size))
        have hn1 : ((n : Int) + 1 == 0) = false := by rw [beq_eq_false_iff_ne]; omega
        clear hD hh
        go_wp2_with fail
        refine (HH.out _ (Below.refl _ _)).mono ?_
        intro e w6 hG
        obtain ⟨a3, c3, rfl, hown, hB8⟩ := hG.wide HB3.out
        have HO := Lib.hid hown
        clear hown hG
        go_wp2_with fail
        go_ret3
        exact ⟨a3, c3, rfl, HO.out, hB8⟩
  · have hc : bfC ps b n = fe (vp ps) (vb b) := by unfold bfC; rw [if_neg hz]
    have hxx : bfX ps b n = none := by unfold bfX; rw [if_neg (by rw [hc]; exact hz)]
    rw [hc, hxx]
    have hz1 : (fe (vp ps) (vb b) != 0) = true := by simpa using hz
    have hz2 : (fe (vp ps) (vb b) == 0) = false := by simpa using hz
    generalize fe (vp ps) (vb b) = c at *
    clear hz hp hr hc hxx
    go_enter Try.func14, Try.ntmps14
    go_wp2_with fail
    refine HV.out.mono ?_
    rintro e w1 ⟨rfl, hB⟩
    have HB := Lib.hid hB
    clear hB
    go_wp2_with fail
    go_ret3
    exact givesRgB_nil HB.out

end Go.Proofs.Ytmpgaccpdglhkaa

/- lines, Reached, Dead of the document: contracts. -/
set_option linter.unusedVariables false
set_option linter.unusedSimpArgs false
namespace Go.Proofs.Ytmpgaccpdglhkaa
open Go.RowKit Tinker

/-- What Reached and Dead answer. -/
def rcA (ps : List L) (b : List Rg) (r : Bool) : List Int := if fe (vp ps) (vb b) = 0 then rcL ps b r ps.length else []
theorem rcL_le (ps : List L) (b : List Rg) (r : Bool) : ∀ k, (rcL ps b r k).length ≤ k
  | 0 => Nat.le_refl _
  | k + 1 => by have ih := rcL_le ps b r k; rw [rcL_succ]; split <;> simp <;> omega

set_option maxRecDepth 100000 in
set_option maxHeartbeats 2000000 in
theorem rlines_any (a a2 : Option Addr) (ca c2 : Nat) (ps : List L) (b : List Rg) (r : Bool) (w : World) (hp : LinesAt w a ps) (hr : RangesAt w a2 b) :
    Calls Try.prog 52 #[.slice a ps.length ca, .slice a2 b.length c2, .bool r] w (GivesIntsE (rcA ps b r) (fe (vp ps) (vb b)) w) := by
  have HV := Lib.hid (rboxed_any a a2 ca c2 ps b w hp hr)
  have HP := Lib.hid hp
  have HR := Lib.hid hr
  by_cases hz : fe (vp ps) (vb b) = 0
  · obtain ⟨i0, hi, hz0, hz1, hz2⟩ := info_parts info_int
    obtain ⟨z1, z2⟩ := fe_zero hz
    have hok := vb_ok z2
    have h8 := (vp_ok z1).1
    rw [show rcA ps b r = rcL ps b r ps.length by unfold rcA; rw [if_pos hz], hz]
    rw [hz] at HV
    have HS := Lib.hid (fun w h1 h2 => rspans_any a a2 ca c2 ps b w h1 h2 z1 hok)
    have HL := Lib.hid (dL_len ps b)
    have HE := Lib.hid (fun w k M xs W (hk : k ≤ ps.length) (hx : (spL ps b).getD k none = none) (h : DocI w M (dL ps b) xs W) => h.bare (k := k) hk hx)
    have HF := Lib.hid (fun w k M xs W y (hk : k ≤ ps.length) (hx : (spL ps b).getD k none = some y) (h : DocI w M (dL ps b) xs W) => h.hull (k := k) hk z1 hok hx)
    have HST := Lib.hid (fun k => rcL_succ (ps := ps) (b := b) (r := r) (k := k))
    have HLE := Lib.hid (rcL_le ps b r)
    have HNIL := Lib.hid (show rcL ps b r 0 = [] from rfl)
    generalize dL ps b = st at *
    generalize spL ps b = sp at *
    generalize rcL ps b r = Z at *
    clear hz z1 z2 hok hp hr
    go_enter Try.func52, Try.ntmps52
    go_wp2_with fail
    refine HV.out.mono ?_
    rintro e w1 ⟨rfl, hB⟩
    have HB := Lib.hid hB
    clear hB
    go_wp2_with fail
    refine (HS.out _ (HP.out.below HB.out (Nat.le_refl _)) (HR.out.below HB.out (Nat.le_refl _))).mono ?_
    rintro e w3 ⟨M, xs, rfl, hD⟩
    rw [HL.out]
    have HB3 := Lib.hid (HB.out.trans (hD.below.mono HB.out.size))
    have HD := Lib.hid hD
    clear hD
    go_wp2_with fail
    go_loopw [9, 11] (fun s9 s11 wr => ∃ (k : Nat) (v : Value), k ≤ ps.length ∧ s9 = v ∧ s11 = .int .i64 k ∧ wr.ownsRow w3.heap.size 3 1 v (Z k).length ((Z k).map (Value.int .i64)) ∧ Below w3.heap.size w3 wr) (fun _ s11 _ => ps.length - (intOf s11).toNat)
    case atStart => exact ⟨0, _, Nat.zero_le _, rfl, rfl, by rw [HNIL.out]; exact World.ownsRow_nil _ _ _ _, Below.refl _ _⟩
    case round =>
      obtain ⟨k, v, hk, hv0, rfl, hown, hB⟩ := hrel
      have hv0' := hv0.symm
      subst hv0'
      by_cases hlt : k < ps.length
      · have hk1 : (k : Int) < (ps.length : Int) + 1 := by omega
        have HX : Hid (∃ a' c' n, wr.cell? ⟨M, k, none⟩ = some (.slice a' n c') ∧ decide (0 < n) = (sp.getD k none).isSome) := by
          cases hx : sp.getD k none with
          | none =>
            obtain ⟨a', c', hc⟩ := HE.out _ k M xs wr (by omega) hx (HD.out.low hB)
            exact ⟨a', c', 0, hc, by simp⟩
          | some y =>
            obtain ⟨n, a', c', hc, _⟩ := HF.out _ k M xs wr y (by omega) hx (HD.out.low hB)
            exact ⟨a', c', n + 1, hc, by simp⟩
        obtain ⟨a', c', n, hc, hd⟩ := HX.out
        have hst := HST.out k
        have hle := HLE.out k
        cases hq : ((sp.getD k none).isSome == r)
        · rw [hq] at hst
          rw [if_neg (by simp)] at hst
          have HQ := Lib.hid hst
          have HO := Lib.hid hown
          have HB4 := Lib.hid hB
          have hd2 : (decide (0 < n) == r) = false := by rw [hd]; exact hq
          clear hst hq hd hown hB
          go_wp2_with fail
          go_roundw
          case rel => exact ⟨k + 1, _, by omega, rfl, by go_num, by rw [HQ.out]; exact HO.out, HB4.out⟩
          case measure => simp [intOf]; omega
        · rw [hq] at hst
          rw [if_pos rfl] at hst
          have HQ := Lib.hid (show (Z (k + 1)).length = (Z k).length + 1 ∧ (Z (k + 1)).map (Value.int .i64) = (Z k).map (Value.int .i64) ++ [.int .i64 (k : Int)] by rw [hst]; simp)
          have hd2 : (decide (0 < n) == r) = true := by rw [hd]; exact hq
          have hsz := hB.size
          clear hst hq hd
          generalize hzn : (Z k).length = zn at *
          generalize (Z k).map (Value.int .i64) = zs at *
          clear hzn
          go_wp2_with (at_builtin; go_loud (refine wpList_append_own _ rfl (.tmp 35) (.tmp 37) 34 rfl w3.heap.size 3 i0 (.int .i64 0) 1 8 Try.underlying34 hi hz0 hz1 hz2 rfl (by decide) _ _ _ rfl (hown.alloc _) ⟨wr.heap.size, 0, none⟩ 1 1 [.int .i64 (k : Int)] rfl (by rfl) (cell_one_new _ _ _) (by simp [Value.oneCell']) (by unfold maxLen; omega) (by omega) (by simp; omega) ?_))
          intro v' w4 hown' hgrow _
          have HB4 := Lib.hid (show Below w3.heap.size w3 w4 from (hB.alloc hB.size _).grown hgrow (by have := hB.size; simp; omega) (own_base hown))
          have HO := Lib.hid hown'
          clear hown hown' hgrow hB
          go_wp2_with fail
          go_roundw
          case rel => exact ⟨k + 1, _, by omega, rfl, by go_num, by rw [HQ.out.1, HQ.out.2]; exact HO.out, HB4.out⟩
          case measure => simp [intOf]; omega
      · obtain rfl : k = ps.length := by omega
        obtain ⟨va, vc, rfl⟩ := own_slice hown
        have HG := Lib.hid (show GivesIntsE (Z ps.length) 0 w (.returned (.tuple #[.slice va (Z ps.length).length vc, .int .i64 0])) wr from ⟨va, vc, rfl, own_mono hown HB3.out.size, HB3.out.trans (hB.mono HB3.out.size)⟩)
        clear hown hB
        generalize (Z ps.length).length = zn at *
        go_wp2_with fail
        go_ret2
        exact HG.out
  · rw [show rcA ps b r = [] by unfold rcA; rw [if_neg hz]]
    have hz1 : (fe (vp ps) (vb b) != 0) = true := by simpa using hz
    have hz2 : (fe (vp ps) (vb b) == 0) = false := by simpa using hz
    generalize fe (vp ps) (vb b) = c at *
    clear hz hp hr
    go_enter Try.func52, Try.ntmps52
    go_wp2_with fail
    refine HV.out.mono ?_
    rintro e w1 ⟨rfl, hB⟩
    have HB := Lib.hid hB
    clear hB
    go_wp2_with fail
    go_ret2
    exact givesIntsE_nil HB.out

set_option maxRecDepth 100000 in
set_option maxHeartbeats 2000000 in
theorem rReached_any (a a2 : Option Addr) (ca c2 : Nat) (ps : List L) (b : List Rg) (w : World) (hp : LinesAt w a ps) (hr : RangesAt w a2 b) :
    Calls Try.prog 17 #[.slice a ps.length ca, .slice a2 b.length c2] w (GivesIntsE (rcA ps b true) (fe (vp ps) (vb b)) w) := by
  have H := Lib.hid (rlines_any a a2 ca c2 ps b true w hp hr)
  generalize rcA ps b true = Z at *
  generalize fe (vp ps) (vb b) = c at *
  clear hp hr
  go_enter Try.func17, Try.ntmps17
  go_wp2_with fail
  refine H.out.mono ?_
  rintro e w1 ⟨a', c', rfl, hown, hB⟩
  have HO := Lib.hid hown
  have HB := Lib.hid hB
  clear hown hB
  go_wp2_with fail
  go_ret2
  exact ⟨a', c', rfl, HO.out, HB.out⟩

set_option maxRecDepth 100000 in
set_option maxHeartbeats 2000000 in
theorem rDead_any (a a2 : Option Addr) (ca c2 : Nat) (ps : List L) (b : List Rg) (w : World) (hp : LinesAt w a ps) (hr : RangesAt w a2 b) :
    Calls Try.prog 19 #[.slice a ps.length ca, .slice a2 b.length c2] w (GivesIntsE (rcA ps b false) (fe (vp ps) (vb b)) w) := by
  have H := Lib.hid (rlines_any a a2 ca c2 ps b false w hp hr)
  generalize rcA ps b false = Z at *
  generalize fe (vp ps) (vb b) = c at *
  clear hp hr
  go_enter Try.func19, Try.ntmps19
  go_wp2_with fail
  refine H.out.mono ?_
  rintro e w1 ⟨a', c', rfl, hown, hB⟩
  have HO := Lib.hid hown
  have HB := Lib.hid hB
  clear hown hB
  go_wp2_with fail
  go_ret2
  exact ⟨a', c', rfl, HO.out, HB.out⟩

end Go.Proofs.Ytmpgaccpdglhkaa
