/- lined of the document's side: contract. -/
import Derived.Test.YtgoidphamkpmdaaGreatBlI
import Derived.Test.YtgoidphamkpmdaaGreatBlP
set_option linter.unusedVariables false
set_option linter.unusedSimpArgs false
namespace Go.Proofs.YtgoidphamkpmdaaGreat
open Go.RowKit Tinker

set_option maxRecDepth 100000 in
set_option maxHeartbeats 2000000 in
theorem rLined_any (a b : Option Addr) (ca cb : Nat) (ps : List L) (ls : List Int) (w : World) (hp : LinesAt w a ps) (hl : IntsAt w b ls) (hm : ls.length ≤ 1000) (hm2 : ps.length ≤ 1000) :
    Calls Tryz.prog 49 #[.slice a ps.length ca, .slice b ls.length cb] w fun e w' => e = .returned (.int .i64 (lnC ps ls)) ∧ Below w.heap.size w w' := by
  have H1 := Lib.hid (rIsSet_any b cb ls w hl (by omega))
  cases h1 : isSetB ls
  · rw [lnC_1 h1]
    rw [h1] at H1
    clear hp hl h1
    go_enter Tryz.func49, Tryz.ntmps49
    go_wp2_with fail
    refine H1.out.mono ?_
    rintro e w1 ⟨rfl, hB⟩
    go_wp2_with fail
    go_ret
    exact ⟨rfl, hB⟩
  · have HH1 := Lib.hid h1
    rw [h1] at H1
    clear h1
    go_enter Tryz.func49, Tryz.ntmps49
    go_wp2_with fail
    refine H1.out.mono ?_
    rintro e w1 ⟨rfl, hB⟩
    have HB := Lib.hid hB
    clear hB H1
    go_wp2_with fail
    go_loopw [5] (fun s5 wr => ∃ k : Nat, k ≤ ls.length ∧ s5 = .int .i64 k ∧ (ls.take k).all (btw · 0 ((ps.length : Int) - 1)) = true ∧ Below w.heap.size w wr) (fun s5 _ => ls.length - (intOf s5).toNat)
    case atStart => exact ⟨0, Nat.zero_le _, rfl, by simp, HB.out⟩
    case round =>
      obtain ⟨k, hk, rfl, hall, hBr⟩ := hrel
      have HA := Lib.hid hall
      have HBR := Lib.hid hBr
      clear hall hBr
      by_cases hlt : k < ls.length
      · obtain ⟨b1, off, x, rfl, hlb, hx, h0⟩ := (hl.below HBR.out (Nat.le_refl _)).at_ hlt
        have HX := Lib.hid hx
        have HW := Lib.hid (within3b_any x 0 ((ps.length : Int) - 1) wr)
        clear hx hl hp
        cases hv : btw x 0 ((ps.length : Int) - 1)
        · have HV := Lib.hid hv
          rw [hv] at HW
          clear hv
          go_wp2_with fail
          refine HW.out.mono ?_
          rintro e w2 ⟨rfl, rfl⟩
          go_wp2_with fail
          go_ret
          exact ⟨ret_int (lnC_4 HH1.out (by unfold allBtw; exact all_not HX.out HV.out)).symm, HBR.out⟩
        · have HV := Lib.hid hv
          rw [hv] at HW
          clear hv
          go_wp2_with fail
          refine HW.out.mono ?_
          rintro e w2 ⟨rfl, rfl⟩
          go_wp2_with fail
          go_roundw
          case rel => exact ⟨k + 1, by omega, by go_num, all_snoc HA.out HX.out HV.out, HBR.out⟩
          case measure => simp [intOf]; omega
      · have HH2 := Lib.hid (show allBtw ls 0 ((ps.length : Int) - 1) = true by unfold allBtw; exact all_whole HA.out hlt)
        obtain rfl : k = ls.length := by omega
        clear HA
        by_cases h3 : 2 < ls.length
        · have HC := Lib.hid (lnC_3 HH1.out HH2.out h3)
          clear hp hl
          go_wp2_with fail
          go_ret
          exact ⟨ret_int HC.out.symm, HBR.out⟩
        · have h3' : ls.length ≤ 2 := by omega
          go_wp2_with fail
          go_loopw [6] (fun s6 wx => ∃ k : Nat, k ≤ ls.length ∧ s6 = .int .i64 k ∧ (ls.take k).all (fun n => wrB (ps.getD n.toNat ⟨0, 0, 0, 0⟩)) = true ∧ Below w.heap.size w wx) (fun s6 _ => ls.length - (intOf s6).toNat)
          case atStart => exact ⟨0, Nat.zero_le _, rfl, by simp, HBR.out⟩
          case round =>
            clear HBR
            obtain ⟨k, hk, rfl, hall, hBr⟩ := hrel
            have HA := Lib.hid hall
            have HBR := Lib.hid hBr
            clear hall hBr
            by_cases hlt : k < ls.length
            · obtain ⟨b1, off, x, rfl, hlb, hx, h0⟩ := (hl.below HBR.out (Nat.le_refl _)).at_ hlt
              have HX := Lib.hid hx
              obtain ⟨q1, q2⟩ := allBtw_at HH2.out (mem_of_get hx)
              obtain ⟨n, rfl⟩ : ∃ n : Nat, x = n := ⟨x.toNat, by omega⟩
              obtain ⟨b2, off2, l, rfl, hlb2, hl2, c0, c1, c2, c3⟩ := (hp.below HBR.out (Nat.le_refl _)).at_ (show n < ps.length by omega)
              have HW := Lib.hid (fun w => rWrites_A l w)
              have HE := Lib.hid (show wrB (ps.getD (n : Int).toNat ⟨0, 0, 0, 0⟩) = wrB l by rw [show (n : Int).toNat = n by omega, getD_of_get hl2])
              have hnn : n < ps.length := by omega
              unfold lv at HW
              clear hx hl hp hl2
              cases hv : wrB l
              · have HV := Lib.hid (HE.out.trans hv)
                rw [hv] at HW
                clear hv
                go_wp2_with fail
                refine (HW.out _).mono ?_
                rintro e w2 ⟨rfl, hB2⟩
                go_wp2_with fail
                go_ret
                exact ⟨ret_int (lnC_6 HH1.out HH2.out h3' (by unfold awB; exact all_not HX.out HV.out)).symm, HBR.out.trans (hB2.mono HBR.out.size)⟩
              · have HV := Lib.hid (HE.out.trans hv)
                rw [hv] at HW
                clear hv
                go_wp2_with fail
                refine (HW.out _).mono ?_
                rintro e w2 ⟨rfl, hB2⟩
                go_wp2_with fail
                go_roundw
                case rel => exact ⟨k + 1, by omega, by go_num, all_snoc HA.out HX.out HV.out, HBR.out.trans (hB2.mono HBR.out.size)⟩
                case measure => simp [intOf]; omega
            · have HZ := Lib.hid (all_whole HA.out hlt)
              clear HA hp hl
              go_wp2_with fail
              go_ret
              exact ⟨ret_int (lnC_0 HH1.out HH2.out h3' (by unfold awB; exact HZ.out)).symm, HBR.out⟩

end Go.Proofs.YtgoidphamkpmdaaGreat
