/- Suites of the document: Cheapest: contract. -/
import Derived.Test.YtmigkbimdjiigaaSuT2
set_option linter.unusedVariables false
set_option linter.unusedSimpArgs false
namespace Go.Proofs.Ytmigkbimdjiigaa
open Go.RowKit Tinker

set_option maxRecDepth 100000 in
set_option maxHeartbeats 4000000 in
theorem rChe8_any (a b : Option Addr) (ca cb : Nat) (t : List (List Int)) (c : List Int) (w : World) (ht : RowsAt w a t) (hr : IntsAt w b c) (hl : t.length ≤ 1000) (hm : ∀ z ∈ t, z.length ≤ 1000) (hcl : c.length ≤ 1000) :
    Calls Try.prog 34 #[.slice a t.length ca, .slice b c.length cb] w (GivesINE (cheA t c) (cheK t c) (csu t c) w) := by
  have HV := Lib.hid (rValidate8_any a ca t w ht hl hm)
  unfold cheA cheK
  by_cases hv : vsu t = 0
  · by_cases hlen : c.length = t.length
    · have hne : ((c.length : Int) != (t.length : Int)) = false := by rw [hlen]; simp
      have hcs1 : allBtw c 1 99 = true → csu t c = 0 := fun hab => by unfold csu; rw [if_pos hv, if_pos ⟨hlen, hab⟩]
      have hcs2 : allBtw c 1 99 = false → csu t c = 1 := fun hab => by unfold csu; rw [if_pos hv, if_neg (by rw [hab]; simp)]
      have hl8 := (vsu_ok hv).1
      have HC := Lib.hid (fun (hc : allBtw c 1 99 = true) w ht hr => by
        have h := rCheap_any a b ca cb t c w ht hr hv hlen (btw_1000 hc)
        rw [cheD_eq hl8] at h
        exact h)
      have HL := Lib.hid hlen
      have HCM := Lib.hid (show outC (some (cheM t c)) = numsK (cheM t c) from rfl)
      have HLM := Lib.hid (show lstC c (some (cheM t c)) = (keyC c (cheM t c) : Int) from rfl)
      rw [hv] at HV
      have HT := Lib.hid ht
      have HR := Lib.hid hr
      have HS1 := Lib.hid (fun h => show csu t c = 0 ∧ (if csu t c = 0 then numsK (cheM t c) else []) = numsK (cheM t c) ∧ (if csu t c = 0 then (keyC c (cheM t c) : Int) else 0) = (keyC c (cheM t c) : Int) from by
        have := hcs1 h
        rw [this, if_pos rfl, if_pos rfl]; exact ⟨rfl, rfl, rfl⟩)
      have HS2 := Lib.hid (fun h => show csu t c = 1 ∧ (if csu t c = 0 then numsK (cheM t c) else []) = [] ∧ (if csu t c = 0 then (keyC c (cheM t c) : Int) else 0) = 0 from by
        have := hcs2 h
        rw [this, if_neg (by decide), if_neg (by decide)]; exact ⟨rfl, rfl, rfl⟩)
      clear ht hr hv hm hcs1 hcs2
      generalize (if csu t c = 0 then numsK (cheM t c) else []) = QL at *
      generalize (if csu t c = 0 then (keyC c (cheM t c) : Int) else 0) = QK at *
      generalize cheM t c = C at *
      generalize csu t c = E at *
      clear hlen
      go_enter Try.func34, Try.ntmps34
      go_wp2_with fail
      refine HV.out.mono ?_
      rintro e w1 ⟨rfl, hB1⟩
      have HB1 := Lib.hid hB1
      obtain ⟨W1, hW1⟩ : ∃ W, W = w1 := ⟨_, rfl⟩
      subst hW1
      clear hB1 HV
      go_wp2_with fail
      go_loopw [8] (fun s8 wr => ∃ k : Nat, k ≤ c.length ∧ s8 = .int .i64 k ∧ (c.take k).all (btw · 1 99) = true ∧ W1 = wr) (fun s8 _ => c.length - (intOf s8).toNat)
      case atStart => exact ⟨0, Nat.zero_le _, rfl, by simp, rfl⟩
      case round =>
        clear hne
        obtain ⟨k, hk, rfl, hall, rfl⟩ := hrel
        have HA := Lib.hid hall
        clear hall
        by_cases hlt : k < c.length
        · obtain ⟨b3, off3, y, rfl, hlb3, hy, hcy⟩ := (HR.out.below HB1.out (Nat.le_refl _)).at_ hlt
          have HY := Lib.hid hy
          clear hy
          cases hb : btw y 1 99
          · have HE := Lib.hid (HS2.out (by
              rw [Bool.eq_false_iff]
              intro h
              have := List.all_eq_true.1 h y (mem_of_get HY.out)
              rw [hb] at this
              cases this))
            have HBB := Lib.hid hb
            obtain ⟨g1, g2, g3⟩ := HE.out
            have G1 := Lib.hid g1
            have G2 := Lib.hid g2
            have G3 := Lib.hid g3
            clear g1 g2 g3 HE
            by_cases h1 : y < 1
            · have hd : decide (y < 1) = true := decide_eq_true h1
              clear hb
              go_wp2_with fail
              go_ret3
              rw [G1.out, G2.out, G3.out]
              exact ⟨none, 0, rfl, World.ownsRow_nil _ _ _ _, HB1.out⟩
            · have hd : decide (y < 1) = false := decide_eq_false h1
              have hd2 : decide ((99 : Int) < y) = true := decide_eq_true (by
                rcases Classical.em (99 < y) with h2 | h2
                · exact h2
                · have := btw_true.2 (show (1 : Int) ≤ y ∧ y ≤ 99 by omega)
                  rw [hb] at this
                  cases this)
              clear hb h1
              go_wp2_with fail
              go_ret3
              rw [G1.out, G2.out, G3.out]
              exact ⟨none, 0, rfl, World.ownsRow_nil _ _ _ _, HB1.out⟩
          · have h2 := btw_true.1 hb
            have hd : decide (y < 1) = false := decide_eq_false (by omega)
            have hd2 : decide ((99 : Int) < y) = false := decide_eq_false (by omega)
            have HBB := Lib.hid hb
            clear hb h2
            go_wp2_with fail
            go_roundw
            case rel => exact ⟨k + 1, by omega, by go_num, all_snoc HA.out HY.out HBB.out, trivial⟩
            case measure => simp [intOf]; omega
        · obtain rfl : k = c.length := by omega
          have hab : allBtw c 1 99 = true := by have := HA.out; rwa [List.take_length] at this
          have HE := Lib.hid (HS1.out hab)
          have HCC := Lib.hid (HC.out hab)
          obtain ⟨g1, g2, g3⟩ := HE.out
          have G1 := Lib.hid g1
          have G2 := Lib.hid g2
          have G3 := Lib.hid g3
          clear g1 g2 g3 HE
          rw [HCM.out, HLM.out] at HCC
          clear hab
          go_wp2_with fail
          refine (HCC.out _ (HT.out.below HB1.out (Nat.le_refl _)) (HR.out.below HB1.out (Nat.le_refl _))).mono ?_
          rintro e w4 ⟨a4, c4, rfl, ho, hB⟩
          have HO := Lib.hid (own_mono ho HB1.out.size)
          have HB4 := Lib.hid (HB1.out.trans (hB.mono HB1.out.size))
          clear ho hB
          go_wp2_with fail
          go_ret3
          rw [G1.out, G2.out, G3.out]
          exact ⟨a4, c4, rfl, HO.out, HB4.out⟩
    · have hcs : csu t c = 1 := by unfold csu; rw [if_pos hv, if_neg (fun h => hlen h.1)]
      rw [hcs, if_neg (by decide), if_neg (by decide)]
      rw [hv] at HV
      have hne : ((c.length : Int) != (t.length : Int)) = true := by rw [bne_iff_ne]; omega
      clear hv hlen hcs ht hr hm
      go_enter Try.func34, Try.ntmps34
      go_wp2_with fail
      refine HV.out.mono ?_
      rintro e w' ⟨rfl, hB⟩
      have HB := Lib.hid hB
      clear hB
      go_wp2_with fail
      go_ret3
      exact ⟨none, 0, rfl, World.ownsRow_nil _ _ _ _, HB.out⟩
  · have hcs : csu t c = vsu t := by unfold csu; rw [if_neg hv]
    rw [hcs, if_neg hv, if_neg hv]
    have hne : (vsu t != 0) = true := by simpa using hv
    clear hv ht hr hm hcs
    go_enter Try.func34, Try.ntmps34
    go_wp2_with fail
    refine HV.out.mono ?_
    rintro e w' ⟨rfl, hB⟩
    have HB := Lib.hid hB
    clear hB
    go_wp2_with fail
    go_ret3
    exact ⟨none, 0, rfl, World.ownsRow_nil _ _ _ _, HB.out⟩

end Go.Proofs.Ytmigkbimdjiigaa
