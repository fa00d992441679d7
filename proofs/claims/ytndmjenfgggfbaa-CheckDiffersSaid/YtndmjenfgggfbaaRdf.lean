/- Contracts of the document: Differ. -/
import Derived.Test.YtndmjenfgggfbaaRxt
import Derived.Test.YtndmjenfgggfbaaDif
set_option linter.unusedVariables false
set_option linter.unusedSimpArgs false
namespace Go.Proofs.Ytndmjenfgggfbaa
open Go.RowKit Tinker

/-- What Differ answers. -/
def dfc (ps qs : List L) (lo hi : List Int) (out mn mx : Int) : Int := fe (vp ps) (vpc qs lo hi out mn mx)
theorem dfc_ok {ps qs : List L} {lo hi : List Int} {out mn mx : Int} (h : dfc ps qs lo hi out mn mx = 0) : vp ps = 0 ∧ vpc qs lo hi out mn mx = 0 := by
  unfold dfc fe at h; split at h
  · exact ⟨by assumption, h⟩
  · contradiction
def dfL (ps qs : List L) (lo hi : List Int) (out mn mx : Int) : Option (List Int) := if dfc ps qs lo hi out mn mx = 0 then (allS lo hi).find? (fun s => !eqP ps qs out s) else none
theorem dfL_no {ps qs : List L} {lo hi : List Int} {out mn mx : Int} (h : dfc ps qs lo hi out mn mx ≠ 0) : dfL ps qs lo hi out mn mx = none := by unfold dfL; rw [if_neg h]
theorem dfL_ok {ps qs : List L} {lo hi : List Int} {out mn mx : Int} (h : dfc ps qs lo hi out mn mx = 0) : dfL ps qs lo hi out mn mx = (allS lo hi).find? (fun s => !eqP ps qs out s) := by unfold dfL; rw [if_pos h]
theorem dfL_self (ps : List L) (lo hi : List Int) (out mn mx : Int) : dfL ps ps lo hi out mn mx = none := by
  unfold dfL
  split
  · rw [List.find?_eq_none]; intro s _; simp [eqP]
  · rfl
theorem find_at {α : Type} {p : α → Bool} : ∀ {xs : List α} {k : Nat} {x : α}, xs[k]? = some x → p x = true → (∀ j y, j < k → xs[j]? = some y → p y = false) → xs.find? p = some x
  | [], _, _, h, _, _ => by simp at h
  | y :: t, 0, x, h, hp, _ => by
    simp at h; subst h
    rw [List.find?_cons, hp]
  | y :: t, k + 1, x, h, hp, hn => by
    rw [List.find?_cons, hn 0 y (by omega) rfl]
    exact find_at (k := k) (by simpa using h) hp (fun j z hj hz => hn (j + 1) z (by omega) (by simpa using hz))
theorem find_no {α : Type} {p : α → Bool} {xs : List α} (h : ∀ j y, j < xs.length → xs[j]? = some y → p y = false) : xs.find? p = none := by
  rw [List.find?_eq_none]
  intro x hx
  obtain ⟨j, hj, e⟩ := List.mem_iff_getElem.1 hx
  have := h j x hj (by rw [List.getElem?_eq_getElem hj, e])
  rw [this]; simp

set_option maxRecDepth 100000 in
set_option maxHeartbeats 4000000 in
theorem rDiffer_any (a a2 a1 b1 : Option Addr) (ca ca2 c1 c2 : Nat) (ps qs : List L) (lo hi : List Int) (out mn mx : Int) (w : World) (hp : LinesAt w a ps) (hq : LinesAt w a2 qs) (hl : IntsAt w a1 lo) (hh : IntsAt w b1 hi) :
    Calls Try.prog 61 #[.slice a ps.length ca, .slice a2 qs.length ca2, .agg #[.slice a1 lo.length c1, .slice b1 hi.length c2, .int .i64 out, .int .i64 mn, .int .i64 mx]] w (GivesFst (dfL ps qs lo hi out mn mx) (dfc ps qs lo hi out mn mx) w) := by
  have HW := Lib.hid (fun w hp => rValidate_any a ca ps w hp)
  have HV := Lib.hid (fun w hq hl hh => rContracted_any a2 a1 b1 ca2 c1 c2 qs lo hi out mn mx w hq hl hh)
  have HF := Lib.hid (fun hz w hl hh => rStates_ok a1 b1 c1 c2 lo hi out mn mx hz w hl hh)
  have hI := (boxC_new (a := a1) (b := b1) (n := lo.length) (m := hi.length) (ca := c1) (cb := c2) (out := out) (mn := mn) (mx := mx) w)
  have HI := Lib.hid hI
  have x0 := hI.c0
  have x1 := hI.c1
  have x2 := hI.c2
  have x3 := hI.c3
  have x4 := hI.c4
  have HP := Lib.hid hp
  have HQ := Lib.hid hq
  have HL := Lib.hid hl
  have HH := Lib.hid hh
  clear hp hq hl hh hI
  by_cases hv1 : vp ps = 0
  · have HE := Lib.hid (show dfc ps qs lo hi out mn mx = vpc qs lo hi out mn mx by unfold dfc fe; rw [if_pos hv1])
    by_cases hz : vpc qs lo hi out mn mx = 0
    · obtain ⟨hv, hcon⟩ := vpc_ok hz
      have HF2 := Lib.hid (HF.out hcon)
      obtain ⟨hcon2, hN⟩ := vcon_ok hcon
      have hc := okC_of hcon2
      obtain ⟨_, _, _, ho, _⟩ := isCon_ok hcon2
      have HMS := Lib.hid (fun (k : Nat) (s : List Int) (h : (allS lo hi)[k]? = some s) => show vr ps s = 0 by unfold vr fe; rw [if_pos hv1]; exact (mem_st hc h).2)
      have HMT := Lib.hid (fun (k : Nat) (s : List Int) (h : (allS lo hi)[k]? = some s) => show vr qs s = 0 by unfold vr fe; rw [if_pos hv]; exact (mem_st hc h).2)
      have HO := Lib.hid ho
      have hlen : (allS lo hi).length ≤ 400 := by
        have := exTo_len (lo := lo) (hi := hi) 4 (fun j hj => hc.le j hj)
        unfold allS; omega
      rw [dfL_ok (HE.out.trans hz), HE.out, hz]
      rw [hz] at HV
      rw [hv1] at HW
      generalize allS lo hi = ss at *
      clear hz HF hv hv1 hcon hcon2 hN hc ho HE
      go_enter Try.func61, Try.ntmps61
      go_wp2_with fail
      refine (HW.out _ (HP.out.below HI.out.below (Nat.le_refl _))).mono ?_
      rintro e wz ⟨rfl, hB⟩
      have HI1 := Lib.hid (HI.out.low hB)
      clear hB x0 x1 x2 x3 x4
      have x0 := HI1.out.c0
      have x1 := HI1.out.c1
      have x2 := HI1.out.c2
      have x3 := HI1.out.c3
      have x4 := HI1.out.c4
      go_wp2_with fail
      refine (HV.out _ (HQ.out.below HI1.out.below (Nat.le_refl _)) (HL.out.below HI1.out.below (Nat.le_refl _)) (HH.out.below HI1.out.below (Nat.le_refl _))).mono ?_
      rintro e wa ⟨rfl, hB⟩
      have HJ := Lib.hid (HI1.out.low hB)
      clear hB x0 x1 x2 x3 x4
      have x0 := HJ.out.c0
      have x1 := HJ.out.c1
      have x2 := HJ.out.c2
      have x3 := HJ.out.c3
      have x4 := HJ.out.c4
      go_wp2_with fail
      refine (HF2.out _ (HL.out.below HJ.out.below (Nat.le_refl _)) (HH.out.below HJ.out.below (Nat.le_refl _))).mono ?_
      rintro e wl ⟨la, lc, rfl, hR, hB⟩
      have HIL := Lib.hid (HJ.out.low hB)
      have HR := Lib.hid hR
      clear hR hB x0 x1 x2 x3 x4 HF2 HJ HI HI1
      go_wp2_with fail
      go_loopw [12] (fun s12 wr => ∃ (k : Nat), k ≤ ss.length ∧ s12 = .int .i64 k ∧ (∀ j y, j < k → ss[j]? = some y → (!eqP ps qs out y) = false) ∧ Below wl.heap.size wl wr) (fun s12 _ => ss.length - (intOf s12).toNat)
      case atStart => exact ⟨0, Nat.zero_le _, rfl, fun j y hj => by omega, Below.refl _ _⟩
      case round =>
        obtain ⟨k, hk, rfl, hno, hJ⟩ := hrel
        have HNO := Lib.hid hno
        clear hno
        by_cases hlt : k < ss.length
        · obtain ⟨gb, go, s, a', c', rfl, hgb, hs, cg, hsi⟩ := HR.out.at_ hlt
          have HIR := Lib.hid (HIL.out.low hJ)
          have hzr := HMS.out k s hs
          have hzr2 := HMT.out k s hs
          have HE := Lib.hid (fun w hp hs => rMade_any a a' ca c' ps s out w hp hs hzr HO.out)
          have HE2 := Lib.hid (fun w hp hs => rMade_any a2 a' ca2 c' qs s out w hp hs hzr2 HO.out)
          have cg1 := (hJ.cell (p := ⟨gb, _, none⟩) hgb).trans cg
          have hgw := Nat.lt_of_lt_of_le hgb hJ.size
          have y2 := HIR.out.c2
          have hlx := hp_lt HIR.out.bl
          have HPR := Lib.hid (HP.out.below HIR.out.below (Nat.le_refl _))
          have HQR := Lib.hid (HQ.out.below HIR.out.below (Nat.le_refl _))
          have HSR := Lib.hid (hsi.below hJ (Nat.le_refl _))
          have HS := Lib.hid hs
          have hgd : eqP ps qs out s = (endP ps s out == endP qs s out) := rfl
          have HGD := Lib.hid hgd
          generalize endP ps s out = V at HE HGD
          generalize endP qs s out = V2 at HE2 HGD
          have HJ := Lib.hid hJ
          clear hs hJ hzr hzr2 hsi cg hgd
          go_upto_if 48 with fail
          go_cut [48] (fun s48 wx => s48 = .bool (!(V == V2)) ∧ Below wr.heap.size wr wx)
          case first =>
            have hx : Below wr.heap.size wr wr.drew := (Below.refl _ _).drew
            go_region_held3 (fun w' => w'.cell? ⟨gb, go + k, none⟩ = some (.slice a' s.length c') ∧ w'.cell? ⟨w.heap.size, 2, none⟩ = some (.int .i64 out)) (first | exact ⟨cg1, y2⟩ | go_keep) (first | (go_at_call_of 65 (Value.slice a ps.length ca); refine (HE.out _ ?_ ?_).mono ?_; exact HPR.out.below hx (Nat.le_refl _); exact HSR.out.below hx (Nat.le_refl _); rintro e wa ⟨rfl, hBa⟩; replace cg1 := (hBa.cell (p := ⟨gb, _, none⟩) (Nat.lt_of_lt_of_le hgw hx.size)).trans cg1; replace y2 := (hBa.cell (p := ⟨w.heap.size, _, none⟩) (Nat.lt_of_lt_of_le hlx hx.size)).trans y2; replace hx := hx.trans (hBa.mono hx.size); clear hBa) | (go_at_call_of 65 (Value.slice a2 qs.length ca2); refine (HE2.out _ ?_ ?_).mono ?_; exact HQR.out.below hx (Nat.le_refl _); exact HSR.out.below hx (Nat.le_refl _); rintro e wa ⟨rfl, hBa⟩; replace cg1 := (hBa.cell (p := ⟨gb, _, none⟩) (Nat.lt_of_lt_of_le hgw hx.size)).trans cg1; replace y2 := (hBa.cell (p := ⟨w.heap.size, _, none⟩) (Nat.lt_of_lt_of_le hlx hx.size)).trans y2; replace hx := hx.trans (hBa.mono hx.size); clear hBa))
            all_goals go_wp2_with fail
            all_goals go_meet
            all_goals exact ⟨rfl, hx⟩
          case rest =>
            obtain ⟨rfl, hB2⟩ := hcut
            have HJ2 := Lib.hid (HJ.out.trans (hB2.mono HJ.out.size))
            have hcg := (hB2.cell (p := ⟨gb, _, none⟩) hgw).trans cg1
            have hgw2 := Nat.lt_of_lt_of_le hgw hB2.size
            have HSW := Lib.hid (HSR.out.below hB2 (Nat.le_refl _))
            have HIW := Lib.hid (HIR.out.low hB2).below
            clear HJ hB2 cg1 y2 hlx HIR HPR HSR HQR
            cases hpv : (!(V == V2))
            · have HX := Lib.hid (show (!eqP ps qs out s) = false by rw [HGD.out]; exact hpv)
              clear hpv
              go_wp2_with fail
              go_roundw
              case rel => exact ⟨k + 1, by omega, by go_num, fun j y hj hy => by
                rcases Nat.lt_or_ge j k with h | h
                · exact HNO.out j y h hy
                · obtain rfl : j = k := by omega
                  rw [HS.out] at hy; injection hy with e; subst e; exact HX.out, HJ2.out⟩
              case measure => simp [intOf]; omega
            · have HX := Lib.hid (find_at (p := fun s => !eqP ps qs out s) HS.out (show (!eqP ps qs out s) = true by rw [HGD.out]; exact hpv) HNO.out)
              clear hpv
              go_wp2_with fail
              go_ret3
              rw [HX.out]
              exact ⟨a', c', rfl, HSW.out, HIW.out⟩
        · obtain rfl : k = ss.length := by omega
          have HX := Lib.hid (find_no (p := fun s => !eqP ps qs out s) HNO.out)
          have HB := Lib.hid (HIL.out.low hJ).below
          clear hJ
          go_wp2_with fail
          go_ret3
          rw [HX.out]
          exact ⟨none, 0, rfl, .inl rfl, HB.out⟩
    · rw [dfL_no (by rw [HE.out]; exact hz), HE.out]
      rw [hv1] at HW
      generalize vpc qs lo hi out mn mx = V at HV hz
      have hz1 : (V != 0) = true := by simpa using hz
      have hz2 : (V == 0) = false := by simpa using hz
      clear hz HF hv1 HE
      go_enter Try.func61, Try.ntmps61
      go_wp2_with fail
      refine (HW.out _ (HP.out.below HI.out.below (Nat.le_refl _))).mono ?_
      rintro e wz ⟨rfl, hB⟩
      have HI1 := Lib.hid (HI.out.low hB)
      clear hB x0 x1 x2 x3 x4
      have x0 := HI1.out.c0
      have x1 := HI1.out.c1
      have x2 := HI1.out.c2
      have x3 := HI1.out.c3
      have x4 := HI1.out.c4
      go_wp2_with fail
      refine (HV.out _ (HQ.out.below HI1.out.below (Nat.le_refl _)) (HL.out.below HI1.out.below (Nat.le_refl _)) (HH.out.below HI1.out.below (Nat.le_refl _))).mono ?_
      rintro e wa ⟨rfl, hB⟩
      have HJ := Lib.hid (HI1.out.low hB)
      clear hB x0 x1 x2 x3 x4
      go_wp2_with fail
      go_ret3
      exact ⟨none, 0, rfl, .inl rfl, HJ.out.below⟩
  · have HE := Lib.hid (show dfc ps qs lo hi out mn mx = vp ps by unfold dfc fe; rw [if_neg hv1])
    rw [dfL_no (by rw [HE.out]; exact hv1), HE.out]
    generalize vp ps = V at HW hv1
    have hz1 : (V != 0) = true := by simpa using hv1
    have hz2 : (V == 0) = false := by simpa using hv1
    clear hv1 HF HE
    go_enter Try.func61, Try.ntmps61
    go_wp2_with fail
    refine (HW.out _ (HP.out.below HI.out.below (Nat.le_refl _))).mono ?_
    rintro e wz ⟨rfl, hB⟩
    have HI1 := Lib.hid (HI.out.low hB)
    clear hB x0 x1 x2 x3 x4
    go_wp2_with fail
    go_ret3
    exact ⟨none, 0, rfl, .inl rfl, HI1.out.below⟩

end Go.Proofs.Ytndmjenfgggfbaa
