/- Meet of the document: contract. -/
import Derived.Test.YtmpghapfldjfeaaSrC
set_option linter.unusedVariables false
set_option linter.unusedSimpArgs false
namespace Go.Proofs.Ytmpghapfldjfeaa
open Go.RowKit Tinker

set_option maxRecDepth 100000 in
set_option maxHeartbeats 8000000 in
theorem rMeet6_any (a1 a2 : Option Addr) (c1 c2 : Nat) (a b : List Rg) (w : World) (ha : RangesAt w a1 a) (hb : RangesAt w a2 b) :
    Calls Try.prog 30 #[.slice a1 a.length c1, .slice a2 b.length c2] w (GivesRgB (meetM a b) (meetK a b) (fe (vb a) (vb b)) w) := by
  have HT := Lib.hid (fun w h1 h2 => rTwo_any a1 a2 c1 c2 a b w h1 h2)
  have HR := Lib.hid ha
  have HS := Lib.hid hb
  rcases fe_vb_cases a b with hz | hz
  · obtain ⟨z1, z2⟩ := fe_zero hz
    have h4 := (vb_ok z1).l4
    have k4 := (vb_ok z2).l4
    have HME := Lib.hid (fun (h : apB a b = false) => show meetM a b = meetB a b ∧ meetK a b = true by unfold meetM meetK; rw [hz, h]; exact ⟨rfl, rfl⟩)
    rw [hz, h4, k4] at HT
    rw [h4, k4, hz]
    have HL := Lib.hid h4
    have HK := Lib.hid k4
    have HML := Lib.hid (meetB_l h4 k4)
    have HLK := Lib.hid (fun k (h : k ≤ 4) => show ((meetB a b).take k).length ≤ 4 by rw [List.length_take, meetB_l h4 k4]; omega)
    clear hz z1 z2 ha hb
    go_enter Try.func30, Try.ntmps30
    go_wp2_with fail
    refine (HT.out _ HR.out HS.out).mono ?_
    rintro e w1 ⟨rfl, hB⟩
    have HB1 := Lib.hid hB
    clear hB
    go_wp2_with fail
    go_loopw [8, 9] (fun s8 s9 wr => ∃ k : Nat, k ≤ 4 ∧ s9 = .int .i64 k ∧ apTo a b k = false ∧ wr.ownsRow w.heap.size 39 2 s8 ((meetB a b).take k).length (gc ((meetB a b).take k)) ∧ Below w.heap.size w wr) (fun _ s9 _ => 4 - (intOf s9).toNat)
    case atStart => exact ⟨0, Nat.zero_le _, rfl, rfl, World.ownsRow_nil _ _ _ _, HB1.out⟩
    case round =>
      obtain ⟨k, hk, rfl, hap, hown, hB⟩ := hrel
      have HA := Lib.hid hap
      have HO := Lib.hid hown
      clear hap hown
      by_cases hlt : k < 4
      · obtain ⟨g, off, x, rfl, hlb, hx, c0, c1⟩ := (HR.out.below hB (Nat.le_refl _)).at_ (show k < a.length by rw [HL.out]; exact hlt)
        obtain ⟨g', off', y, rfl, hlb', hy, d0, d1⟩ := (HS.out.below hB (Nat.le_refl _)).at_ (show k < b.length by rw [HK.out]; exact hlt)
        have HMG := Lib.hid (show (meetB a b).getD k rg0 = meetG x y by rw [meetB_at HL.out HK.out hlt, getD_of_get hx, getD_of_get hy])
        have HMI := Lib.hid (show (meetB a b)[k]? = some ((meetB a b).getD k rg0) by
          obtain ⟨z, hz⟩ := get_of_lt (show k < (meetB a b).length by rw [HML.out]; exact hlt)
          rw [hz, getD_of_get hz])
        have HB := Lib.hid hB
        have hs' := hB.size
        have hlt1 : decide ((k : Int) < 4) = true := decide_eq_true (by omega)
        obtain ⟨P, hP⟩ : ∃ P, P = (meetB a b).take k := ⟨_, rfl⟩
        rw [← hP] at HO
        have HPP := Lib.hid hP
        have hlk : P.length ≤ 4 := by rw [hP]; exact HLK.out k hk
        obtain ⟨va, vc, rfl⟩ := own_slice HO.out
        clear hx hy hB h4 k4 hP
        by_cases q1 : x.lo < y.lo
        · have q1' : ¬ y.lo ≤ x.lo := by omega
          by_cases q2 : y.hi < x.hi
          · have q2' : ¬ x.hi ≤ y.hi := by omega
            have HMX := Lib.hid (show meetG x y = ⟨y.lo, y.hi⟩ by unfold meetG; rw [show max x.lo y.lo = y.lo by omega, show min x.hi y.hi = y.hi by omega])
            rw [HMX.out] at HMG
            by_cases p : y.hi < y.lo
            · have hap : apB a b = true := apTo_yes hlt (by rw [HMG.out]; exact p)
              have HR1 := Lib.hid (show meetM a b = [] by unfold meetM; rw [hap]; simp)
              have HR2 := Lib.hid (show meetK a b = false by unfold meetK; rw [hap]; simp)
              clear hap
              go_wp2_with fail
              go_region
              all_goals go_wp2_with fail
              all_goals go_ret3
              all_goals exact (by rw [HR1.out, HR2.out]; exact givesRgB_nil (HB.out.alloc HB.out.size _).drew)
            · have p' : ¬ y.hi < y.lo := p
              have HAP := Lib.hid (show apTo a b (k + 1) = false by rw [apTo_succ, HA.out, HMG.out]; simpa using p)
              have HTK := Lib.hid (show (meetB a b).take (k + 1) = (meetB a b).take k ++ [⟨y.lo, y.hi⟩] from take_snoc (by rw [← HMG.out]; exact HMI.out))
              clear p
              go_wp2_with fail
              go_region
              all_goals go_wp2_with (at_builtin; (refine wpList_append_rg rfl (.tmp 51) (.tmp 53) rfl w.heap.size _ P rfl (own_below HO.out (((Below.refl _ _).alloc (Nat.le_refl _) _).alloc (by simp) _).drew (Nat.le_refl _)) _ 1 [⟨y.lo, y.hi⟩] rfl (ranges_blk (hp_drew (hp_new (by simp)))) (by intro h; cases h) (by simp; omega) (by have := HB.out.size; simp; omega) ?_))
              all_goals intro v' w2 R HRR hown hgrow
              all_goals have HO2 := Lib.hid hown
              all_goals have HB2 := Lib.hid (hgrow _ _ ((HB.out.alloc HB.out.size _).alloc (by have := HB.out.size; simp; omega) _).drew (Nat.le_refl _))
              all_goals clear hown hgrow
              all_goals go_wp2_with fail
              all_goals go_roundw
              all_goals first | (simp [intOf]; omega) | exact ⟨k + 1, by omega, by go_num, HAP.out, by rw [HTK.out, ← HPP.out, ← HRR.out]; exact HO2.out, HB2.out⟩
          · have q2' : x.hi ≤ y.hi := by omega
            have HMX := Lib.hid (show meetG x y = ⟨y.lo, x.hi⟩ by unfold meetG; rw [show max x.lo y.lo = y.lo by omega, show min x.hi y.hi = x.hi by omega])
            rw [HMX.out] at HMG
            by_cases p : x.hi < y.lo
            · have hap : apB a b = true := apTo_yes hlt (by rw [HMG.out]; exact p)
              have HR1 := Lib.hid (show meetM a b = [] by unfold meetM; rw [hap]; simp)
              have HR2 := Lib.hid (show meetK a b = false by unfold meetK; rw [hap]; simp)
              clear hap
              go_wp2_with fail
              go_region
              all_goals go_wp2_with fail
              all_goals go_ret3
              all_goals exact (by rw [HR1.out, HR2.out]; exact givesRgB_nil (HB.out.alloc HB.out.size _).drew)
            · have p' : ¬ x.hi < y.lo := p
              have HAP := Lib.hid (show apTo a b (k + 1) = false by rw [apTo_succ, HA.out, HMG.out]; simpa using p)
              have HTK := Lib.hid (show (meetB a b).take (k + 1) = (meetB a b).take k ++ [⟨y.lo, x.hi⟩] from take_snoc (by rw [← HMG.out]; exact HMI.out))
              clear p
              go_wp2_with fail
              go_region
              all_goals go_wp2_with (at_builtin; (refine wpList_append_rg rfl (.tmp 51) (.tmp 53) rfl w.heap.size _ P rfl (own_below HO.out (((Below.refl _ _).alloc (Nat.le_refl _) _).alloc (by simp) _).drew (Nat.le_refl _)) _ 1 [⟨y.lo, x.hi⟩] rfl (ranges_blk (hp_drew (hp_new (by simp)))) (by intro h; cases h) (by simp; omega) (by have := HB.out.size; simp; omega) ?_))
              all_goals intro v' w2 R HRR hown hgrow
              all_goals have HO2 := Lib.hid hown
              all_goals have HB2 := Lib.hid (hgrow _ _ ((HB.out.alloc HB.out.size _).alloc (by have := HB.out.size; simp; omega) _).drew (Nat.le_refl _))
              all_goals clear hown hgrow
              all_goals go_wp2_with fail
              all_goals go_roundw
              all_goals first | (simp [intOf]; omega) | exact ⟨k + 1, by omega, by go_num, HAP.out, by rw [HTK.out, ← HPP.out, ← HRR.out]; exact HO2.out, HB2.out⟩
        · have q1' : y.lo ≤ x.lo := by omega
          by_cases q2 : y.hi < x.hi
          · have q2' : ¬ x.hi ≤ y.hi := by omega
            have HMX := Lib.hid (show meetG x y = ⟨x.lo, y.hi⟩ by unfold meetG; rw [show max x.lo y.lo = x.lo by omega, show min x.hi y.hi = y.hi by omega])
            rw [HMX.out] at HMG
            by_cases p : y.hi < x.lo
            · have hap : apB a b = true := apTo_yes hlt (by rw [HMG.out]; exact p)
              have HR1 := Lib.hid (show meetM a b = [] by unfold meetM; rw [hap]; simp)
              have HR2 := Lib.hid (show meetK a b = false by unfold meetK; rw [hap]; simp)
              clear hap
              go_wp2_with fail
              go_region
              all_goals go_wp2_with fail
              all_goals go_ret3
              all_goals exact (by rw [HR1.out, HR2.out]; exact givesRgB_nil (HB.out.alloc HB.out.size _).drew)
            · have p' : ¬ y.hi < x.lo := p
              have HAP := Lib.hid (show apTo a b (k + 1) = false by rw [apTo_succ, HA.out, HMG.out]; simpa using p)
              have HTK := Lib.hid (show (meetB a b).take (k + 1) = (meetB a b).take k ++ [⟨x.lo, y.hi⟩] from take_snoc (by rw [← HMG.out]; exact HMI.out))
              clear p
              go_wp2_with fail
              go_region
              all_goals go_wp2_with (at_builtin; (refine wpList_append_rg rfl (.tmp 51) (.tmp 53) rfl w.heap.size _ P rfl (own_below HO.out (((Below.refl _ _).alloc (Nat.le_refl _) _).alloc (by simp) _).drew (Nat.le_refl _)) _ 1 [⟨x.lo, y.hi⟩] rfl (ranges_blk (hp_drew (hp_new (by simp)))) (by intro h; cases h) (by simp; omega) (by have := HB.out.size; simp; omega) ?_))
              all_goals intro v' w2 R HRR hown hgrow
              all_goals have HO2 := Lib.hid hown
              all_goals have HB2 := Lib.hid (hgrow _ _ ((HB.out.alloc HB.out.size _).alloc (by have := HB.out.size; simp; omega) _).drew (Nat.le_refl _))
              all_goals clear hown hgrow
              all_goals go_wp2_with fail
              all_goals go_roundw
              all_goals first | (simp [intOf]; omega) | exact ⟨k + 1, by omega, by go_num, HAP.out, by rw [HTK.out, ← HPP.out, ← HRR.out]; exact HO2.out, HB2.out⟩
          · have q2' : x.hi ≤ y.hi := by omega
            have HMX := Lib.hid (show meetG x y = ⟨x.lo, x.hi⟩ by unfold meetG; rw [show max x.lo y.lo = x.lo by omega, show min x.hi y.hi = x.hi by omega])
            rw [HMX.out] at HMG
            by_cases p : x.hi < x.lo
            · have hap : apB a b = true := apTo_yes hlt (by rw [HMG.out]; exact p)
              have HR1 := Lib.hid (show meetM a b = [] by unfold meetM; rw [hap]; simp)
              have HR2 := Lib.hid (show meetK a b = false by unfold meetK; rw [hap]; simp)
              clear hap
              go_wp2_with fail
              go_region
              all_goals go_wp2_with fail
              all_goals go_ret3
              all_goals exact (by rw [HR1.out, HR2.out]; exact givesRgB_nil (HB.out.alloc HB.out.size _).drew)
            · have p' : ¬ x.hi < x.lo := p
              have HAP := Lib.hid (show apTo a b (k + 1) = false by rw [apTo_succ, HA.out, HMG.out]; simpa using p)
              have HTK := Lib.hid (show (meetB a b).take (k + 1) = (meetB a b).take k ++ [⟨x.lo, x.hi⟩] from take_snoc (by rw [← HMG.out]; exact HMI.out))
              clear p
              go_wp2_with fail
              go_region
              all_goals go_wp2_with (at_builtin; (refine wpList_append_rg rfl (.tmp 51) (.tmp 53) rfl w.heap.size _ P rfl (own_below HO.out (((Below.refl _ _).alloc (Nat.le_refl _) _).alloc (by simp) _).drew (Nat.le_refl _)) _ 1 [⟨x.lo, x.hi⟩] rfl (ranges_blk (hp_drew (hp_new (by simp)))) (by intro h; cases h) (by simp; omega) (by have := HB.out.size; simp; omega) ?_))
              all_goals intro v' w2 R HRR hown hgrow
              all_goals have HO2 := Lib.hid hown
              all_goals have HB2 := Lib.hid (hgrow _ _ ((HB.out.alloc HB.out.size _).alloc (by have := HB.out.size; simp; omega) _).drew (Nat.le_refl _))
              all_goals clear hown hgrow
              all_goals go_wp2_with fail
              all_goals go_roundw
              all_goals first | (simp [intOf]; omega) | exact ⟨k + 1, by omega, by go_num, HAP.out, by rw [HTK.out, ← HPP.out, ← HRR.out]; exact HO2.out, HB2.out⟩
      · have : k = 4 := by omega
        subst this
        rw [show ((4 : Nat) : Int) = 4 from rfl]
        have HTT := Lib.hid (show (meetB a b).take 4 = meetB a b by rw [List.take_of_length_le (by rw [HML.out]; omega)])
        rw [HTT.out] at HO
        obtain ⟨va, vc, rfl⟩ := own_slice HO.out
        go_wp2_with fail
        go_ret3
        exact (by rw [(HME.out HA.out).1, (HME.out HA.out).2]; exact ⟨va, vc, rfl, HO.out, hB⟩)
  · rw [show meetM a b = [] by unfold meetM; rw [hz]; rfl, show meetK a b = false by unfold meetK; rw [hz]; rfl, hz]
    rw [hz] at HT
    clear hz ha hb
    go_enter Try.func30, Try.ntmps30
    go_wp2_with fail
    refine (HT.out _ HR.out HS.out).mono ?_
    rintro e w1 ⟨rfl, hB⟩
    have HB1 := Lib.hid hB
    clear hB
    go_wp2_with fail
    go_ret3
    exact givesRgB_nil HB1.out

end Go.Proofs.Ytmpghapfldjfeaa
