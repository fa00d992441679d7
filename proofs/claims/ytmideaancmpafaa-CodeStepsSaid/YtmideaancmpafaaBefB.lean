/- Before of the document's answers: contract. -/
import Derived.Test.YtmideaancmpafaaBefA
set_option linter.unusedVariables false
set_option linter.unusedSimpArgs false
namespace Go.Proofs.Ytmideaancmpafaa
open Go.RowKit Tinker

theorem befAt_none {st : List (Nat × List Int)} {i : Nat} (h : ∀ x ∈ st, x.1 ≠ i) : befAt st i = none := by
  unfold befAt
  rw [Option.map_eq_none_iff, List.find?_eq_none]
  intro x hx
  simpa using h x hx
theorem befAt_at {st : List (Nat × List Int)} {k i : Nat} {s : List Int} (h : st[k]? = some (i, s)) (hn : ∀ j y, j < k → st[j]? = some y → y.1 ≠ i) : befAt st i = some s := by
  induction st generalizing k with
  | nil => simp at h
  | cons x r ih =>
    unfold befAt
    rw [List.find?_cons]
    cases k with
    | zero => simp at h; subst h; simp
    | succ k =>
      have h0 := hn 0 x (by omega) rfl
      have e : (x.1 == i) = false := by simpa using h0
      rw [e]
      exact ih (k := k) (by simpa using h) fun j y hj hy => hn (j + 1) y (by omega) (by simpa using hy)

set_option maxRecDepth 100000 in
set_option maxHeartbeats 1000000 in
theorem rBefore_any (a b : Option Addr) (ca cb : Nat) (ps : List L) (s : List Int) (n : Int) (w : World) (hp : LinesAt w a ps) (hs : IntsAt w b s) (hm2 : ps.length ≤ 1000) :
    Calls Try.prog 28 #[.slice a ps.length ca, .slice b s.length cb, .int .i64 n] w (GivesB (befO ps s n) (befC ps s n) w) := by
  have HV := Lib.hid (asked_any a b ca cb ps s w hp hs)
  by_cases hz : vr ps s = 0
  · have HL := Lib.hid (fun w => within_any n 0 ((ps.length : Int) - 1) w)
    have HZ := Lib.hid hz
    cases hb : btw n 0 ((ps.length : Int) - 1)
    · have HE := Lib.hid (show befC ps s n = 4 by unfold befC; rw [if_pos hz, hb]; rfl)
      have HP := Lib.hid (show befO ps s n = none by unfold befO; rw [HE.out]; rfl)
      rw [HP.out, HE.out]
      rw [hb] at HL
      clear hz hb
      go_enter Try.func28, Try.ntmps28
      go_wp2_with fail
      refine HV.out.mono ?_
      rintro e w1 ⟨rfl, hB1⟩
      rw [HZ.out]
      go_wp2_with (go_at_call 68; refine (HL.out _).mono ?_; rintro e w' ⟨rfl, rfl⟩)
      go_ret3
      exact givesB_nil hB1
    · have HE := Lib.hid (show befC ps s n = 0 by unfold befC; rw [if_pos hz, hb]; rfl)
      have HP := Lib.hid (show befO ps s n = befAt (runS ps s) n.toNat by unfold befO; rw [HE.out]; rfl)
      rw [HP.out, HE.out]
      rw [hb] at HL
      obtain ⟨n0, n1⟩ := btw_true.1 hb
      have HT := Lib.hid (fun w hp hs => trace_no a b ca cb ps s w hp hs hz)
      have HOk := Lib.hid (fun x hx => (runS_ok hz x hx).1)
      have hlen := runS_len (ps := ps) (s := s)
      generalize hst : runS ps s = st at HT HOk hlen
      clear hz hb HE HP hst
      go_enter Try.func28, Try.ntmps28
      go_wp2_with fail
      refine HV.out.mono ?_
      rintro e w1 ⟨rfl, hB1⟩
      rw [HZ.out]
      go_wp2_with (go_at_call 68; refine (HL.out _).mono ?_; rintro e w' ⟨rfl, rfl⟩)
      refine (HT.out _ (hp.below hB1 (Nat.le_refl _)) (hs.below hB1 (Nat.le_refl _))).mono ?_
      intro e w2 hG
      obtain ⟨a1, c1, b1, cb1, rfl, hst, _, _, hB2⟩ := hG
      have hB3 := hB1.trans (hB2.mono hB1.size)
      clear hp hs hB1 hB2
      have HST := Lib.hid hst
      clear hst
      go_wp2_with fail
      go_loop [12] (fun s12 => ∃ k : Nat, k ≤ st.length ∧ s12 = .int .i64 k ∧ ∀ j y, j < k → st[j]? = some y → y.1 ≠ n.toNat) (fun s12 => st.length - (intOf s12).toNat)
      case atStart => exact ⟨0, Nat.zero_le _, rfl, fun j y hj => by omega⟩
      case round =>
        obtain ⟨k, hk, rfl, hno⟩ := hrel
        have HNo := Lib.hid hno
        clear hno
        by_cases hlt : k < st.length
        · obtain ⟨g, i, t, bb, cc, rfl, hx, hc1, hc2, hti⟩ := HST.out.at_ hlt
          have HX := Lib.hid hx
          have HTI := Lib.hid hti
          have ht4 := HOk.out _ (mem_of_get hx)
          clear hx hti
          by_cases hin : (i : Int) = n
          · have HF := Lib.hid (befAt_at (i := n.toNat) (by rw [show n.toNat = i by omega]; exact HX.out) HNo.out)
            have HT4 := Lib.hid ht4
            have hin2 : ((i : Int) == n) = true := by simpa using hin
            clear ht4
            go_wp2_with fail
            go_ret3
            rw [HF.out]
            exact ⟨_, _, by rw [show (some t).getD [] = t from rfl, HT4.out]; rfl, HTI.out, hB3⟩
          · have HN2 := Lib.hid (show ∀ j y, j < k + 1 → st[j]? = some y → y.1 ≠ n.toNat from fun j y hj hy => by
              rcases Nat.lt_or_ge j k with h | h
              · exact HNo.out j y h hy
              · have : j = k := by omega
                subst this
                rw [HX.out] at hy
                injection hy with hy
                subst hy
                show i ≠ n.toNat
                omega)
            have hin2 : ((i : Int) == n) = false := by simpa using hin
            clear ht4
            go_wp2_with fail
            go_round
            case rel => exact ⟨k + 1, by omega, by go_num, HN2.out⟩
            case measure => simp [intOf]; omega
        · have HF := Lib.hid (befAt_none (st := st) (i := n.toNat) fun x hx => by
            obtain ⟨j, hj⟩ := List.mem_iff_getElem?.1 hx
            exact HNo.out j x (by have := (List.getElem?_eq_some_iff.1 hj).1; omega) hj)
          go_wp2_with fail
          go_ret3
          rw [HF.out]
          exact givesB_nil hB3
  · have HE := Lib.hid (show befC ps s n = vr ps s by unfold befC; rw [if_neg hz])
    have HP := Lib.hid (show befO ps s n = none by unfold befO; rw [HE.out, if_neg hz])
    rw [HP.out, HE.out]
    generalize vr ps s = c at HV hz
    have hz1 : (c != 0) = true := by simpa using hz
    have hz2 : (c == 0) = false := by simpa using hz
    clear hz hp hs HE HP
    go_enter Try.func28, Try.ntmps28
    go_wp2_with fail
    refine HV.out.mono ?_
    rintro e w1 ⟨rfl, hB1⟩
    go_wp2_with fail
    go_ret3
    exact givesB_nil hB1

end Go.Proofs.Ytmideaancmpafaa
