/- CodeSteps: the walk. -/
import Derived.Test.YtmideaancmpafaaBefB
import Derived.Test.YtmideaancmpafaaLines
import Derived.Test.YtmideaancmpafaaForA
import Derived.Test.YtmideaancmpafaaPlain9
set_option linter.unusedVariables false
set_option linter.unusedSimpArgs false
namespace Go.Proofs.Ytmideaancmpafaa
open Go.RowKit Tinker

theorem asc_get : ∀ {st : List (Nat × List Int)} {j k a b : Nat} {u v : List Int}, asc st → st[j]? = some (a, u) → st[k]? = some (b, v) → j < k → a < b
  | x :: r, 0, k + 1, a, b, u, v, h, h1, h2, _ => by
    rw [asc, List.pairwise_cons] at h
    simp at h1 h2
    subst h1
    exact h.1 _ (mem_of_get h2)
  | x :: r, j + 1, k + 1, a, b, u, v, h, h1, h2, hjk => by
    rw [asc, List.pairwise_cons] at h
    simp at h1 h2
    exact asc_get h.2 h1 h2 (by omega)
theorem linesOf_get {st : List (Nat × List Int)} {k a : Nat} {u : List Int} (h : st[k]? = some (a, u)) : (linesOf st)[k]? = some (a : Int) := by unfold linesOf; rw [List.getElem?_map, h]; rfl
theorem linesOf_len (st : List (Nat × List Int)) : (linesOf st).length = st.length := by simp [linesOf]
theorem isSetB_lines {st : List (Nat × List Int)} (h : asc st) : isSetB (linesOf st) = true := by
  rw [isSetB_iff]
  intro i hi
  rw [linesOf_len] at hi
  obtain ⟨⟨a, u⟩, hx⟩ := get_of_lt (show i < st.length by omega)
  obtain ⟨⟨b, v⟩, hy⟩ := get_of_lt hi
  rw [getD_of_get (linesOf_get hx), getD_of_get (linesOf_get hy)]
  have := asc_get h hx hy (by omega)
  omega
theorem bef_step {st : List (Nat × List Int)} {k a : Nat} {u : List Int} (h : asc st) (hx : st[k]? = some (a, u)) : befAt st a = some u :=
  befAt_at hx fun j y hj hy => by
    obtain ⟨b, v⟩ := y
    have := asc_get h hy hx hj
    show b ≠ a
    omega
theorem stAt_len {st : List (Nat × List Int)} {e : List Int} (h : ∀ x ∈ st, x.2.length = 4) (he : e.length = 4) (k : Nat) : (stAt st e k).length = 4 := by
  rcases Nat.lt_or_ge k st.length with hk | hk
  · obtain ⟨⟨a, u⟩, hx⟩ := get_of_lt hk
    rw [stAt_lt hx]; exact h _ (mem_of_get hx)
  · rw [stAt_ge hk]; exact he
/-- Where the states before and after a step differ, there its line writes. -/
theorem step_differ {ps : List L} {s : List Int} {k a : Nat} {u : List Int} {r : Nat} (hx : (runS ps s)[k]? = some (a, u)) (hne : (stAt (runS ps s) (runE ps s) k).getD r 0 ≠ (stAt (runS ps s) (runE ps s) (k + 1)).getD r 0) :
    ∃ l, ps[a]? = some l ∧ Tinker.wr l = true ∧ l.to.toNat = r := by
  obtain ⟨l, hl, e⟩ := tr_next _ 0 s (Nat.le_refl _) k a u hx
  refine ⟨l, hl, ?_⟩
  by_cases hc : Tinker.wr l = true ∧ l.to.toNat = r
  · exact hc
  · exfalso
    apply hne
    rw [stAt_lt hx]
    unfold runS runE
    rw [e]
    exact (stp_other hc).symm

set_option maxRecDepth 100000 in
set_option maxHeartbeats 4000000 in
theorem codeSteps_walk (a : Option Addr) (ca : Nat) (ps : List L) (b : Option Addr) (cb : Nat) (s : List Int) (w : World) (hp : LinesAt w a ps) (hc : a = none → ca = 0) (hs : IntsAt w b s) (hd : b = none → cb = 0) :
    Calls Try.prog 5 #[.slice a ps.length ca, .slice b s.length cb] w fun e w' => e = .returned (.bool true) ∧ Below w.heap.size w w' := by
  have HL := Lib.hid (fun w => long_any a ps.length ca w)
  have HM := Lib.hid (fun w => large_any b s.length cb w)
  clear hc hd
  by_cases hbig : ps.length ≤ 100 ∧ s.length ≤ 100
  · obtain ⟨g1, g2⟩ := hbig
    rw [show decide ((100 : Int) < (ps.length : Int)) = false by simp; omega] at HL
    rw [show decide ((100 : Int) < (s.length : Int)) = false by simp; omega] at HM
    have HD := Lib.hid (fun w hp hs => done_any a b ca cb ps s w hp hs (by omega))
    have HR := Lib.hid (fun w hp hs => run_any a b ca cb ps s w hp hs (by omega))
    by_cases hz : vr ps s = 0
    · have hok := vs_ok (vr_ok hz).2
      have h8 := (vp_ok (vr_ok hz).1).1
      have hli := (vp_ok (vr_ok hz).1).2
      have HB := Lib.hid (fun n w hp hs => before_any a b ca cb ps s n w hp hs (by omega) (by omega))
      have HDA := Lib.hid (show doneA ps s = linesOf (runS ps s) by unfold doneA; rw [if_pos hz]; exact plc_done runS_asc fun x hx => by have := runS_lt x hx; omega)
      have HRA := Lib.hid (show runL ps s = runE ps s by unfold runL; rw [if_pos hz])
      have HBA := Lib.hid (fun (k a : Nat) (u : List Int) (hx : (runS ps s)[k]? = some (a, u)) => show befC ps s (a : Int) = 0 ∧ befO ps s (a : Int) = some u by
        have h1 : befC ps s (a : Int) = 0 := by unfold befC; rw [if_pos hz, if_pos (btw_true.2 (by have := runS_lt _ (mem_of_get hx); simp at this; omega))]
        refine ⟨h1, ?_⟩
        unfold befO; rw [if_pos h1, Int.toNat_natCast]; exact bef_step runS_asc hx)
      have HDF := Lib.hid (fun k a u r hx hne => step_differ (ps := ps) (s := s) (k := k) (a := a) (u := u) (r := r) hx hne)
      have H0 := Lib.hid (show stAt (runS ps s) (runE ps s) 0 = s from tr_first ps noF 0 s)
      have HEnd := Lib.hid (fun k h => stAt_ge (st := runS ps s) (e := runE ps s) (k := k) h)
      have HMid := Lib.hid (fun k i u h => stAt_lt (st := runS ps s) (e := runE ps s) (k := k) (i := i) (s := u) h)
      have H4 := Lib.hid (fun k => stAt_len (st := runS ps s) (e := runE ps s) (fun x hx => (runS_ok hz x hx).1) (runE_ok hz).1 k)
      have HE4 := Lib.hid (runE_ok hz).1
      have HSet := Lib.hid (isSetB_lines (runS_asc (ps := ps) (s := s)))
      have hlen := runS_len (ps := ps) (s := s)
      have hlt0 := runS_lt (ps := ps) (s := s)
      have HZ := Lib.hid hz
      have HLn := Lib.hid (linesOf_len (runS ps s))
      rw [HDA.out, HZ.out] at HD
      rw [HRA.out, HZ.out] at HR
      generalize runS ps s = st at HD HBA HDF H0 HEnd HMid H4 HSet hlen hlt0 HLn
      generalize runE ps s = E at HR HDF H0 HEnd HMid H4 HE4
      rw [hok.1] at HB HD HR HM ⊢
      clear hz hok HDA HRA
      go_enter Try.func5, Try.ntmps5
      go_wp2_with fail
      refine (HL.out _).mono ?_
      rintro e w' ⟨rfl, rfl⟩
      go_wp2_with fail
      refine (HM.out _).mono ?_
      rintro e w' ⟨rfl, rfl⟩
      go_wp2_with fail
      refine (HD.out _ hp hs).mono ?_
      intro e w1 hG
      obtain ⟨a1, k1, rfl, hi1, hB1⟩ := hG.weak
      have HD1 := Lib.hid hi1
      clear hi1 hG
      go_wp2_with fail
      refine (HR.out _ (hp.below hB1 (Nat.le_refl _)) (hs.below hB1 (Nat.le_refl _))).mono ?_
      intro e w2 hG
      obtain ⟨a2, k2, rfl, hi2, hB2⟩ := hG.weak
      have hB := hB1.trans (hB2.mono hB1.size)
      have HD2 := Lib.hid (HD1.out.below hB2 (Nat.le_refl _))
      have HE2 := Lib.hid hi2
      clear hi2 hG HD1 hB1 hB2
      have hl1 : (linesOf st).length ≤ ps.length := by rw [HLn.out]; exact hlen
      go_wp2_with fail
      refine (rIsSet_any _ _ (linesOf st) _ HD2.out (by omega)).mono ?_
      rintro e w3 ⟨rfl, hB3⟩
      rw [HSet.out]
      have hBB := hB.trans (hB3.mono hB.size)
      have HD3 := Lib.hid (HD2.out.below hB3 (Nat.le_refl _))
      have HE3 := Lib.hid (HE2.out.below hB3 (Nat.le_refl _))
      clear HD2 HE2 hB hB3
      go_wp2_with fail
      rw [HLn.out]
      have H44 := Lib.hid (HE4.out)
      go_loopw [9, 10] (fun s9 s10 wr => ∃ (i : Nat) (aN : Option Addr) (cN : Nat), s10 = .int .i64 i ∧ i ≤ st.length + 1 ∧ s9 = .slice aN 4 cN ∧ IntsAt wr aN (stAt st E (i - 1)) ∧ Below w.heap.size w wr ∧ Below w3.heap.size w3 wr) (fun _ s10 _ => st.length + 1 - (intOf s10).toNat)
      case atStart => exact ⟨0, b, cb, rfl, by omega, rfl, by rw [H0.out]; exact hs.below hBB (Nat.le_refl _), hBB, Below.refl _ _⟩
      case round =>
        obtain ⟨i, aN, cN, rfl, hi, rfl, hN, hBw, hB3⟩ := hrel
        clear hBB
        by_cases hlt : i ≤ st.length
        · obtain ⟨wo, rfl⟩ : ∃ wo : World, wo = wr := ⟨_, rfl⟩
          have HN := Lib.hid hN
          clear hN
          go_upto_if 71 with fail
          go_cut [11] (fun s11 wx => ∃ (aX : Option Addr) (cX : Nat), s11 = .slice aX 4 cX ∧ IntsAt wx aX (stAt st E i) ∧ Below wo.heap.size wo wx)
          case first =>
            by_cases h2 : i < st.length
            · obtain ⟨⟨x, u⟩, hx⟩ := get_of_lt h2
              obtain ⟨db, dof, y, rfl, hdl, hy, dc⟩ := (HD3.out.below hB3 (Nat.le_refl _)).at_ (show i < (linesOf st).length by rw [HLn.out]; exact h2)
              rw [linesOf_get hx] at hy
              injection hy with hy
              subst hy
              have HX := Lib.hid (HBA.out i x u hx)
              have HU := Lib.hid (HMid.out i x u hx)
              clear hx
              go_wp2_with fail
              refine (HB.out (x : Int) _ (hp.below hBw (Nat.le_refl _)) (hs.below hBw (Nat.le_refl _))).mono ?_
              intro e w4 hG
              rw [HX.out.1, HX.out.2] at hG
              obtain ⟨a4, k4, rfl, hi4, hB4⟩ := hG
              have HI4 := Lib.hid hi4
              have HU4 := Lib.hid (show u.length = 4 by rw [← HU.out]; exact H4.out i)
              clear hi4
              go_wp2_with fail
              go_meet
              exact ⟨a4, k4, by show Value.slice a4 u.length k4 = _; rw [HU4.out], by rw [HU.out]; exact HI4.out, hB4⟩
            · have HU := Lib.hid (HEnd.out i (by omega))
              go_wp2_with fail
              go_meet
              exact ⟨_, _, by rw [HE4.out], by rw [HU.out]; exact HE3.out.below hB3 (Nat.le_refl _), Below.refl _ _⟩
          case rest =>
            obtain ⟨aX, cX, rfl, hX, hB5⟩ := hcut
            have hBx := hBw.trans (hB5.mono hBw.size)
            have hB3x := hB3.trans (hB5.mono hB3.size)
            have hNx := HN.out.below hB5 (Nat.le_refl _)
            have hlx := H4.out i
            have hln := H4.out (i - 1)
            clear HN hB5 hBw hB3
            go_wp2_with fail
            have HX4 := Lib.hid hlx
            have HN4 := Lib.hid hln
            have HEq := Lib.hid (fun (h : i = 0) => show stAt st E (i - 1) = stAt st E i by rw [h])
            go_loopw [15] (fun s15 wr => ∃ r : Nat, r ≤ 4 ∧ s15 = .int .i64 r ∧ Below w.heap.size w wr ∧ Below w3.heap.size w3 wr ∧ IntsAt wr aN (stAt st E (i - 1)) ∧ IntsAt wr aX (stAt st E i)) (fun s15 _ => 4 - (intOf s15).toNat)
            case atStart => exact ⟨0, by omega, rfl, hBx, hB3x, hNx, hX⟩
            case round =>
              clear hX hBx hB3x hNx hlx hln
              obtain ⟨r, hr, rfl, hBx, hB3x, hNx, hX⟩ := hrel
              by_cases hr4 : r < 4
              · obtain ⟨nb, no_, x, rfl, hnl, hx, nc⟩ := hNx.at_ (show r < (stAt st E (i - 1)).length by rw [HN4.out]; exact hr4)
                obtain ⟨xb, xo, y, rfl, hxl, hy, xc⟩ := hX.at_ (show r < (stAt st E i).length by rw [HX4.out]; exact hr4)
                have HNx := Lib.hid hNx
                have HXx := Lib.hid hX
                clear hNx hX
                have r0 : (0 : Int) ≤ (r : Int) := by omega
                have r1 : (r : Int) < 4 := by omega
                by_cases hxy : x = y
                · subst hxy
                  have hxx : (x == x) = true := by simp
                  clear hx hy
                  go_wp2_with fail
                  go_quiet (fail)
                  go_wp2_with fail
                  go_roundw
                  case rel => exact ⟨r + 1, by omega, by go_num, hBx.trans (Below.mono ⟨rfl, rfl, rfl, Nat.le_refl _, fun _ _ => rfl⟩ hBx.size), hB3x.trans (Below.mono ⟨rfl, rfl, rfl, Nat.le_refl _, fun _ _ => rfl⟩ hB3x.size), HNx.out.below (B := wr.heap.size) ⟨rfl, rfl, rfl, Nat.le_refl _, fun _ _ => rfl⟩ (Nat.le_refl _), HXx.out.below (B := wr.heap.size) ⟨rfl, rfl, rfl, Nat.le_refl _, fun _ _ => rfl⟩ (Nat.le_refl _)⟩
                  case measure => simp [intOf]; omega
                · have hi0 : i ≠ 0 := fun h => by
                    have e := HEq.out h
                    rw [e, hy] at hx
                    injection hx with hx
                    exact hxy hx.symm
                  obtain ⟨j, rfl⟩ : ∃ j, i = j + 1 := ⟨i - 1, by omega⟩
                  rw [Nat.add_sub_cancel] at hx HNx HN4 HEq
                  obtain ⟨⟨q, u⟩, hq⟩ := get_of_lt (show j < st.length by omega)
                  obtain ⟨l, hl, hw, hto⟩ := HDF.out j q u r hq (by rw [getD_of_get hx, getD_of_get hy]; exact hxy)
                  have hql := hlt0 _ (mem_of_get hq)
                  have hln := hli l (mem_of_get hl)
                  obtain ⟨t0, t3⟩ := wr_to hln hw
                  have hwn := Lib.hid (show wrN l = (r : Int) by unfold wrN; rw [hln, hw]; simp; omega)
                  have hwb := Lib.hid (show wrB l = true by unfold wrB; rw [hln, hw]; rfl)
                  have hvl := Lib.hid (show vl l = 0 by unfold vl; rw [hln]; rfl)
                  obtain ⟨db, dof, y2, rfl, hdl, hy2, dc⟩ := (HD3.out.below hB3x (Nat.le_refl _)).at_ (show j < (linesOf st).length by rw [HLn.out]; omega)
                  rw [linesOf_get hq] at hy2
                  injection hy2 with hy2
                  subst hy2
                  obtain ⟨pb, po, l2, rfl, hpl, hl2, c0, c1, c2, c3⟩ := (hp.below hBx (Nat.le_refl _)).at_ (show q < ps.length from hql)
                  rw [hl] at hl2
                  injection hl2 with hl2
                  subst hl2
                  have hxy2 : (x == y) = false := by simpa using hxy
                  have rr : ((r : Int) != (r : Int)) = false := by simp
                  have q1 : (q : Int) < (ps.length : Int) := by have : q < ps.length := hql; omega
                  have q0 : (0 : Int) ≤ (q : Int) := by omega
                  have q2 : decide (ps.length ≤ q) = false := by have : q < ps.length := hql; simp; omega
                  have q3 : decide ((ps.length : Int) ≤ (q : Int)) = false := by simp; omega
                  have q4 : decide ((q : Int) < 0) = false := by simp
                  have j1 : ((j : Int) + 1 == 0) = false := by rw [beq_eq_false_iff_ne]; omega
                  clear hx hy hq hl hxy hi0 hw hto HEq HN4 HX4
                  rw [show ((j + 1 : Nat) : Int) = (j : Int) + 1 from by omega]
                  go_wp2_with fail
                  go_quiet (fail)
                  go_wp2_with fail
                  refine (writes_A l _).mono ?_
                  rintro e w5 ⟨rfl, hB5⟩
                  rw [hwn.out, hwb.out, hvl.out]
                  replace hB5 : Below wr.heap.size wr w5 := Below.trans (b := wr.drewN nq) ⟨rfl, rfl, rfl, Nat.le_refl _, fun _ _ => rfl⟩ hB5
                  have HN5 := Lib.hid (HNx.out.below hB5 (Nat.le_refl _))
                  have HX5 := Lib.hid (HXx.out.below hB5 (Nat.le_refl _))
                  have hB6 := hBx.trans (hB5.mono hBx.size)
                  have hB7 := hB3x.trans (hB5.mono hB3x.size)
                  clear HNx HXx c0 c1 c2 c3 dc nc xc hB5
                  go_wp2_with fail
                  go_roundw
                  case rel => exact ⟨r + 1, by omega, by go_num, hB6, hB7, by rw [Nat.add_sub_cancel]; exact HN5.out, HX5.out⟩
                  case measure => simp [intOf]; omega
              · have hr4' : r = 4 := by omega
                subst hr4'
                have HX5 := Lib.hid hX
                clear hX hNx
                go_wp2_with fail
                go_roundw
                case rel => exact ⟨i + 1, _, _, by go_num, by omega, rfl, by rw [Nat.add_sub_cancel]; exact HX5.out, hBx, hB3x⟩
                case measure => simp [intOf]; omega
        · have hie : i = st.length + 1 := by omega
          clear hN
          go_wp2_with fail
          refine (known_true _).mono ?_
          rintro e wk ⟨rfl, hBk⟩
          go_wp2_with fail
          go_ret
          exact ⟨rfl, hBw.trans (hBk.mono hBw.size)⟩
    · generalize vr ps s = c at *
      have hz1 : (c != 0) = true := by simpa using hz
      have hz2 : (c == 0) = false := by simpa using hz
      have hz3 : (c == c) = true := by simp
      clear hz
      go_enter Try.func5, Try.ntmps5
      go_wp2_with fail
      refine (HL.out _).mono ?_
      rintro e w' ⟨rfl, rfl⟩
      go_wp2_with fail
      refine (HM.out _).mono ?_
      rintro e w' ⟨rfl, rfl⟩
      go_wp2_with fail
      refine (HD.out _ hp hs).mono ?_
      intro e w1 hG
      obtain ⟨a1, k1, rfl, hi1, hB1⟩ := hG.weak
      clear hi1 hG
      go_wp2_with fail
      refine (HR.out _ (hp.below hB1 (Nat.le_refl _)) (hs.below hB1 (Nat.le_refl _))).mono ?_
      intro e w2 hG
      obtain ⟨a2, k2, rfl, hi2, hB2⟩ := hG.weak
      have hB := hB1.trans (hB2.mono hB1.size)
      clear hi2 hG
      go_wp2_with fail
      refine (known_true _).mono ?_
      rintro e wk ⟨rfl, hBk⟩
      go_wp2_with fail
      go_ret
      exact ⟨rfl, hB.trans (hBk.mono hB.size)⟩
  · have hc : 100 < ps.length ∨ (ps.length ≤ 100 ∧ 100 < s.length) := by omega
    clear hbig hp hs
    rcases hc with g1 | ⟨g1, g2⟩
    · rw [show decide ((100 : Int) < (ps.length : Int)) = true by simp; omega] at HL
      go_enter Try.func5, Try.ntmps5
      go_wp2_with fail
      refine (HL.out _).mono ?_
      rintro e w' ⟨rfl, rfl⟩
      go_wp2_with fail
      refine (known_true _).mono ?_
      rintro e wk ⟨rfl, hBk⟩
      go_wp2_with fail
      go_ret
      exact ⟨rfl, hBk⟩
    · rw [show decide ((100 : Int) < (ps.length : Int)) = false by simp; omega] at HL
      rw [show decide ((100 : Int) < (s.length : Int)) = true by simp; omega] at HM
      go_enter Try.func5, Try.ntmps5
      go_wp2_with fail
      refine (HL.out _).mono ?_
      rintro e w' ⟨rfl, rfl⟩
      go_wp2_with fail
      refine (HM.out _).mono ?_
      rintro e w' ⟨rfl, rfl⟩
      go_wp2_with fail
      refine (known_true _).mono ?_
      rintro e wk ⟨rfl, hBk⟩
      go_wp2_with fail
      go_ret
      exact ⟨rfl, hBk⟩

end Go.Proofs.Ytmideaancmpafaa
