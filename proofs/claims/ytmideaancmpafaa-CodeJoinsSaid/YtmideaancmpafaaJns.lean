/- CodeJoins: the walk. -/
import Derived.Test.YtmideaancmpafaaJoinB
import Derived.Test.YtmideaancmpafaaPlain9
import Derived.Test.YtmideaancmpafaaRuns
set_option linter.unusedVariables false
set_option linter.unusedSimpArgs false
namespace Go.Proofs.Ytmideaancmpafaa
open Go.RowKit Tinker

/-- No skip of the first k lines reaches beyond the end. -/
def FitTo (p : List L) (k : Nat) : Prop := ∀ (i : Nat) (l : L), i < k → p[i]? = some l → l.op = 7 → (i : Int) + l.to < p.length
theorem fitTo_zero (p : List L) : FitTo p 0 := fun i l h => by omega
theorem fitTo_succ {p : List L} {k : Nat} {l : L} (h : FitTo p k) (hl : p[k]? = some l) (h7 : l.op = 7 → (k : Int) + l.to < p.length) : FitTo p (k + 1) := fun i m hi hm ho => by
  rcases Nat.lt_or_ge i k with h1 | h1
  · exact h i m h1 hm ho
  · have : i = k := by omega
    subst this
    rw [hl] at hm
    injection hm with hm
    subst hm
    exact h7 ho
theorem joins_eq {ps qs : List L} {s : List Int} (h1 : joC ps qs = 0) (h2 : vr ps s = 0) (hf : FitTo ps ps.length) : vr qs (runL ps s) = 0 ∧ vr (joP ps qs) s = 0 ∧ runL qs (runL ps s) = runL (joP ps qs) s := by
  obtain ⟨a, b, c⟩ := joC_ok h1
  have e1 : runL ps s = runE ps s := by unfold runL; rw [if_pos h2]
  have hok := runE_ok h2
  have v1 : vr qs (runL ps s) = 0 := by unfold vr fe; rw [if_pos b, e1]; exact vs_ok' hok.1 hok.2
  have v2 : vr (joP ps qs) s = 0 := by unfold vr fe; rw [if_pos (joP_vp h1)]; exact (vr_ok h2).2
  refine ⟨v1, v2, ?_⟩
  have e2 : runL qs (runL ps s) = runE qs (runL ps s) := by unfold runL; rw [if_pos (by unfold runL at v1; exact v1)]
  have e3 : runL (joP ps qs) s = runE (joP ps qs) s := by unfold runL; rw [if_pos v2]
  rw [e2, e3, e1, joP_yes h1]
  exact (runE_join (vp_ok a).2 fun i l hl h7 => hf i l (List.getElem?_eq_some_iff.1 hl).1 hl h7).symm

set_option maxRecDepth 100000 in
set_option maxHeartbeats 4000000 in
theorem codeJoins_walk (a : Option Addr) (ca : Nat) (ps : List L) (b : Option Addr) (cb : Nat) (qs : List L) (c : Option Addr) (cc : Nat) (s : List Int) (w : World) (hp : LinesAt w a ps) (hc : a = none → ca = 0) (hq : LinesAt w b qs) (hd : b = none → cb = 0) (hs : IntsAt w c s) (he : c = none → cc = 0) :
    Calls Try.prog 14 #[.slice a ps.length ca, .slice b qs.length cb, .slice c s.length cc] w fun e w' => e = .returned (.bool true) ∧ Below w.heap.size w w' := by
  have HL := Lib.hid (fun w => long_any a ps.length ca w)
  have HL2 := Lib.hid (fun w => long_any b qs.length cb w)
  have HM := Lib.hid (fun w => large_any c s.length cc w)
  by_cases hbig : ps.length ≤ 100 ∧ qs.length ≤ 100 ∧ s.length ≤ 100
  · obtain ⟨g1, g2, g3⟩ := hbig
    rw [show decide ((100 : Int) < (ps.length : Int)) = false by simp; omega] at HL
    rw [show decide ((100 : Int) < (qs.length : Int)) = false by simp; omega] at HL2
    rw [show decide ((100 : Int) < (s.length : Int)) = false by simp; omega] at HM
    have HJ := Lib.hid (fun w hp hq => join_any a b ca cb ps qs w hp hc hq hd (by omega) (by omega))
    have HK := Lib.hid (fun w hp hq => rJoin_any a b ca cb ps qs w hp hc hq hd (by omega) (by omega))
    have HR := Lib.hid (fun w hp hs => run_any a c ca cc ps s w hp hs (by omega))
    have hjl := joP_len ps qs
    have hel := runL_len ps s
    have HQ := Lib.hid (fun a5 c5 w hq hi => run_any b a5 cb c5 qs (runL ps s) w hq hi (by omega))
    have HZ := Lib.hid (fun aj cj w hj hs => run_any aj c cj cc (joP ps qs) s w hj hs (by omega))
    have HFin := Lib.hid (fun h1 h2 h3 => joins_eq (ps := ps) (qs := qs) (s := s) h1 h2 h3)
    have HLn := Lib.hid (fun (h : joC ps qs = 0) => (vp_ok (joC_ok h).1).2)
    have hyl := runL_len (joP ps qs) s
    generalize joC ps qs = c1 at HJ HK HFin HLn
    generalize hvr : vr ps s = c2 at HR HFin
    clear hvr hc hd he
    generalize runL qs (runL ps s) = Y at HQ HFin
    generalize vr qs (runL ps s) = c3 at HQ HFin
    generalize runL (joP ps qs) s = Z at HZ HFin hyl
    generalize vr (joP ps qs) s = c4 at HZ HFin
    generalize runL ps s = E at HR HQ hel
    generalize joP ps qs = J at HJ HK HZ hjl
    go_enter Try.func14, Try.ntmps14
    go_wp2_with fail
    refine (HL.out _).mono ?_
    rintro e w' ⟨rfl, rfl⟩
    go_wp2_with fail
    refine (HL2.out _).mono ?_
    rintro e w' ⟨rfl, rfl⟩
    go_wp2_with fail
    refine (HM.out _).mono ?_
    rintro e w' ⟨rfl, rfl⟩
    go_wp2_with fail
    refine (HJ.out _ hp hq).mono ?_
    intro e w1 hG
    obtain ⟨a1, k1, rfl, hown, hB1⟩ := hG
    have HJ1 := Lib.hid (lines_of_own hown).1
    clear hown
    go_wp2_with fail
    refine (HK.out _ (hp.below hB1 (Nat.le_refl _)) (hq.below hB1 (Nat.le_refl _))).mono ?_
    intro e w2 hG
    obtain ⟨a2, k2, rfl, hown, hB2⟩ := hG
    have hB := hB1.trans (hB2.mono hB1.size)
    have HJ2 := Lib.hid (HJ1.out.below hB2 (Nat.le_refl _))
    have HK2 := Lib.hid (lines_of_own hown).1
    clear hown HJ1 hB1 hB2
    go_wp2_with fail
    refine (sameL_self J.length _ _ _ _ J _ rfl HJ2.out HK2.out (by omega)).mono ?_
    rintro e w3 ⟨rfl, hB3⟩
    have hB' := hB.trans (hB3.mono hB.size)
    have HJ3 := Lib.hid (HJ2.out.below hB3 (Nat.le_refl _))
    have hcc : (c1 != c1) = false := by simp
    clear HJ2 HK2 hB hB3
    go_wp2_with fail
    refine (HR.out _ (hp.below hB' (Nat.le_refl _)) (hs.below hB' (Nat.le_refl _))).mono ?_
    intro e w4 hG
    obtain ⟨a4, k4, rfl, hi4, hB4⟩ := hG.weak
    have HB := Lib.hid (hB'.trans (hB4.mono hB'.size))
    have HJ4 := Lib.hid (HJ3.out.below hB4 (Nat.le_refl _))
    have HE4 := Lib.hid hi4
    clear hi4 hG HJ3 hB' hB4 hcc
    by_cases hz1 : c1 = 0
    · subst hz1
      by_cases hz2 : c2 = 0
      · subst hz2
        have HLi := Lib.hid (HLn.out rfl)
        have HF2 := Lib.hid (HFin.out rfl rfl)
        clear HFin HLn
        go_wp2_with fail
        go_loop [13] (fun s13 => ∃ k : Nat, k ≤ ps.length ∧ s13 = .int .i64 k ∧ FitTo ps k) (fun s13 => ps.length - (intOf s13).toNat)
        case atStart => exact ⟨0, Nat.zero_le _, rfl, fitTo_zero _⟩
        case round =>
          obtain ⟨k, hk, rfl, hfit⟩ := hrel
          have HFt := Lib.hid hfit
          clear hfit
          by_cases hlt : k < ps.length
          · obtain ⟨pb, po, l, rfl, hlb, hl, x0, x1, x2, x3⟩ := (hp.below HB.out (Nat.le_refl _)).at_ hlt
            have hln := HLi.out l (mem_of_get hl)
            have HX := Lib.hid hl
            clear hl
            by_cases h7 : l.op = 7
            · have h7b : (l.op == 7) = true := by simpa using h7
              obtain ⟨t1, t8⟩ := isLn_skip hln h7
              have H7 := Lib.hid h7
              clear h7
              by_cases hge : (ps.length : Int) ≤ (k : Int) + l.to
              · have hge2 : decide ((ps.length : Int) ≤ (k : Int) + l.to) = true := by simpa using hge
                go_wp2_with fail
                refine (known_true _).mono ?_
                rintro e wk ⟨rfl, hBk⟩
                go_wp2_with fail
                go_ret
                exact ⟨rfl, HB.out.trans (hBk.mono HB.out.size)⟩
              · have hge2 : decide ((ps.length : Int) ≤ (k : Int) + l.to) = false := by simpa using hge
                go_wp2_with fail
                go_round
                case rel => exact ⟨k + 1, by omega, by go_num, fitTo_succ HFt.out HX.out fun _ => by omega⟩
                case measure => simp [intOf]; omega
            · have h7b : (l.op == 7) = false := by simpa using h7
              have H7 := Lib.hid h7
              clear h7
              go_wp2_with fail
              go_round
              case rel => exact ⟨k + 1, by omega, by go_num, fitTo_succ HFt.out HX.out fun h => absurd h H7.out⟩
              case measure => simp [intOf]; omega
          · have hke : k = ps.length := by omega
            have hfin := HF2.out (by rw [← hke]; exact HFt.out)
            obtain ⟨rfl, rfl, rfl⟩ := hfin
            clear HF2 hke
            go_wp2_with fail
            refine (HQ.out _ _ _ (hq.below HB.out (Nat.le_refl _)) HE4.out).mono ?_
            intro e w5 hG
            obtain ⟨a5, k5, rfl, hi5, hB5⟩ := hG.weak
            have HB5 := Lib.hid (HB.out.trans (hB5.mono HB.out.size))
            have HJ5 := Lib.hid (HJ4.out.below hB5 (Nat.le_refl _))
            have HY5 := Lib.hid hi5
            clear hi5 hG hB5 HB HJ4 HE4
            go_wp2_with fail
            refine (HZ.out _ _ _ HJ5.out (hs.below HB5.out (Nat.le_refl _))).mono ?_
            intro e w6 hG
            obtain ⟨a6, k6, rfl, hi6, hB6⟩ := hG.weak
            have HB6 := Lib.hid (HB5.out.trans (hB6.mono HB5.out.size))
            have HY6 := Lib.hid (HY5.out.below hB6 (Nat.le_refl _))
            have HZ6 := Lib.hid hi6
            clear hi6 hG hB6 HB5 HJ5 HY5
            go_wp2_with fail
            refine (same_self Y.length _ _ _ _ Y _ rfl HY6.out HZ6.out (by omega)).mono ?_
            rintro e w7 ⟨rfl, hB7⟩
            have HB := Lib.hid (HB6.out.trans (hB7.mono HB6.out.size))
            clear hB7
            go_wp2_with fail
            refine (known_true _).mono ?_
            rintro e wk ⟨rfl, hBk⟩
            go_wp2_with fail
            go_ret
            exact ⟨rfl, HB.out.trans (hBk.mono HB.out.size)⟩
      · have hz2' : (c2 != 0) = true := by simpa using hz2
        have hz2'' : (c2 == 0) = false := by simpa using hz2
        clear hz2 HFin HLn
        go_wp2_with fail
        refine (known_true _).mono ?_
        rintro e wk ⟨rfl, hBk⟩
        go_wp2_with fail
        go_ret
        exact ⟨rfl, HB.out.trans (hBk.mono HB.out.size)⟩
    · have hz1' : (c1 != 0) = true := by simpa using hz1
      have hz1'' : (c1 == 0) = false := by simpa using hz1
      clear hz1 HFin HLn
      go_wp2_with fail
      refine (known_true _).mono ?_
      rintro e wk ⟨rfl, hBk⟩
      go_wp2_with fail
      go_ret
      exact ⟨rfl, HB.out.trans (hBk.mono HB.out.size)⟩
  · have hcs : 100 < ps.length ∨ (ps.length ≤ 100 ∧ 100 < qs.length) ∨ (ps.length ≤ 100 ∧ qs.length ≤ 100 ∧ 100 < s.length) := by omega
    have HB := Lib.hid (Below.refl w.heap.size w)
    clear hbig hp hs hq hc hd he
    rcases hcs with g1 | ⟨g1, g2⟩ | ⟨g1, g2, g3⟩
    · rw [show decide ((100 : Int) < (ps.length : Int)) = true by simp; omega] at HL
      go_enter Try.func14, Try.ntmps14
      go_wp2_with fail
      refine (HL.out _).mono ?_
      rintro e w' ⟨rfl, rfl⟩
      go_wp2_with fail
      refine (known_true _).mono ?_
      rintro e wk ⟨rfl, hBk⟩
      go_wp2_with fail
      go_ret
      exact ⟨rfl, HB.out.trans (hBk.mono HB.out.size)⟩
    · rw [show decide ((100 : Int) < (ps.length : Int)) = false by simp; omega] at HL
      rw [show decide ((100 : Int) < (qs.length : Int)) = true by simp; omega] at HL2
      go_enter Try.func14, Try.ntmps14
      go_wp2_with fail
      refine (HL.out _).mono ?_
      rintro e w' ⟨rfl, rfl⟩
      go_wp2_with fail
      refine (HL2.out _).mono ?_
      rintro e w' ⟨rfl, rfl⟩
      go_wp2_with fail
      refine (known_true _).mono ?_
      rintro e wk ⟨rfl, hBk⟩
      go_wp2_with fail
      go_ret
      exact ⟨rfl, HB.out.trans (hBk.mono HB.out.size)⟩
    · rw [show decide ((100 : Int) < (ps.length : Int)) = false by simp; omega] at HL
      rw [show decide ((100 : Int) < (qs.length : Int)) = false by simp; omega] at HL2
      rw [show decide ((100 : Int) < (s.length : Int)) = true by simp; omega] at HM
      go_enter Try.func14, Try.ntmps14
      go_wp2_with fail
      refine (HL.out _).mono ?_
      rintro e w' ⟨rfl, rfl⟩
      go_wp2_with fail
      refine (HL2.out _).mono ?_
      rintro e w' ⟨rfl, rfl⟩
      go_wp2_with fail
      refine (HM.out _).mono ?_
      rintro e w' ⟨rfl, rfl⟩
      go_wp2_with fail
      refine (known_true _).mono ?_
      rintro e wk ⟨rfl, hBk⟩
      go_wp2_with fail
      go_ret
      exact ⟨rfl, HB.out.trans (hBk.mono HB.out.size)⟩

end Go.Proofs.Ytmideaancmpafaa
