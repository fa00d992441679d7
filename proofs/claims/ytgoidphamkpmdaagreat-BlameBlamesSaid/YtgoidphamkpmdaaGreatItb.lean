/- IsToBlame of blame: contract. -/
import Derived.Test.YtgoidphamkpmdaaGreatBlI
set_option linter.unusedVariables false
set_option linter.unusedSimpArgs false
namespace Go.Proofs.YtgoidphamkpmdaaGreat
open Go.RowKit Tinker

/-- What IsToBlame answers. -/
def itC (ps : List L) (ts : List T) (ls : List Int) : Int := if vpt ps ts = 0 then lnC ps ls else vpt ps ts
def itB (ps : List L) (ts : List T) (ls : List Int) : Bool := if itC ps ts ls = 0 then capB ps (fT ps ts) ls else false
theorem fT_len (ps : List L) (ts : List T) : (fT ps ts).length ≤ ts.length := by unfold fT; rw [List.length_map]; exact pL_len _ _ _

set_option maxRecDepth 100000 in
set_option maxHeartbeats 2000000 in
theorem IsToBlame_any (a g c : Option Addr) (ca cg cc : Nat) (ps : List L) (ts : List T) (ls : List Int) (w : World) (hp : LinesAt w a ps) (hts : TestsAt w g ts) (hl : IntsAt w c ls) (hm0 : ts.length ≤ 1000) (hml : ∀ t ∈ ts, t.inn.length ≤ 1000) (hm : ls.length ≤ 1000) (hmp : ps.length ≤ 1000) :
    Calls Tryz.prog 17 #[.slice a ps.length ca, .slice g ts.length cg, .slice c ls.length cc] w fun e w' => e = .returned (.tuple #[.bool (itB ps ts ls), .int .i64 (itC ps ts ls)]) ∧ Below w.heap.size w w' := by
  have HV := Lib.hid (validateTestsB_any a g ca cg ps ts w hp hts hm0 hml)
  have HLN := Lib.hid (fun w hp hl => validateLines_any a c ca cc ps ls w hp hl hm hmp)
  have HFT := Lib.hid (fun w hp hts => failingT_any a g ca cg ps ts w hp hts hm0 hml)
  have HP := Lib.hid hp
  have HT := Lib.hid hts
  have HL := Lib.hid hl
  by_cases hz : vpt ps ts = 0
  · have hT := (vts_ok (vpt_ok hz).2).2
    have e1 : itC ps ts ls = lnC ps ls := by unfold itC; rw [if_pos hz]
    by_cases hln : lnC ps ls = 0
    · have h2 := (lnC_ok hln).2.2.1
      have h3 := fT_len ps ts
      have HCP := Lib.hid (fun g' cg' w hp hts hl => canPassAll_any a g' c ca cg' cc ps (fT ps ts) ls w hp hts hl (fun t ht => hT t (fT_mem ht)) (by omega) (by omega))
      have e2 : itB ps ts ls = capB ps (fT ps ts) ls := by unfold itB; rw [e1, if_pos hln]
      rw [e2, e1, hln]
      rw [hz] at HV
      rw [hln] at HLN
      generalize capB ps (fT ps ts) ls = R at HCP ⊢
      generalize fT ps ts = Z at HCP HFT
      clear hz hT e1 e2 hln h2 h3 hp hts hl hm hmp hml hm0
      go_enter Tryz.func17, Tryz.ntmps17
      go_wp2_with fail
      refine HV.out.mono ?_
      rintro e w1 ⟨rfl, hB⟩
      have HB1 := Lib.hid hB
      clear hB
      go_wp2_with fail
      refine (HLN.out _ (HP.out.below HB1.out (Nat.le_refl _)) (HL.out.below HB1.out (Nat.le_refl _))).mono ?_
      rintro e w2 ⟨rfl, hB⟩
      have HB2 := Lib.hid (HB1.out.trans (hB.mono HB1.out.size))
      clear hB
      go_wp2_with fail
      refine (HFT.out _ (HP.out.below HB2.out (Nat.le_refl _)) (HT.out.below HB2.out (Nat.le_refl _))).mono ?_
      rintro e w3 ⟨a3, c3, rfl, h3, hB⟩
      have HB3 := Lib.hid (HB2.out.trans (hB.mono HB2.out.size))
      have H3 := Lib.hid h3
      clear hB h3
      go_wp2_with fail
      refine (HCP.out _ _ _ (HP.out.below HB3.out (Nat.le_refl _)) H3.out (HL.out.below HB3.out (Nat.le_refl _))).mono ?_
      rintro e w4 ⟨rfl, hB⟩
      have HB4 := Lib.hid (HB3.out.trans (hB.mono HB3.out.size))
      clear hB
      go_wp2_with fail
      go_ret2
      exact ⟨rfl, HB4.out⟩
    · have e2 : itB ps ts ls = false := by unfold itB; rw [e1, if_neg hln]
      rw [e2, e1]
      rw [hz] at HV
      generalize lnC ps ls = co at HLN hln ⊢
      have hz1 : (co != 0) = true := by simpa using hln
      have hz2 : (co == 0) = false := by simpa using hln
      clear hz hT e1 e2 hln hp hts hl hm hmp hml hm0
      go_enter Tryz.func17, Tryz.ntmps17
      go_wp2_with fail
      refine HV.out.mono ?_
      rintro e w1 ⟨rfl, hB⟩
      have HB1 := Lib.hid hB
      clear hB
      go_wp2_with fail
      refine (HLN.out _ (HP.out.below HB1.out (Nat.le_refl _)) (HL.out.below HB1.out (Nat.le_refl _))).mono ?_
      rintro e w2 ⟨rfl, hB⟩
      go_wp2_with fail
      go_ret2
      exact ⟨rfl, HB1.out.trans (hB.mono HB1.out.size)⟩
  · have e1 : itC ps ts ls = vpt ps ts := by unfold itC; rw [if_neg hz]
    have e2 : itB ps ts ls = false := by unfold itB; rw [e1, if_neg hz]
    rw [e2, e1]
    generalize vpt ps ts = co at HV hz ⊢
    have hz1 : (co != 0) = true := by simpa using hz
    have hz2 : (co == 0) = false := by simpa using hz
    clear hz e1 e2 hp hts hl hm hmp hml hm0
    go_enter Tryz.func17, Tryz.ntmps17
    go_wp2_with fail
    refine HV.out.mono ?_
    rintro e w1 ⟨rfl, hB⟩
    go_wp2_with fail
    go_ret2
    exact ⟨rfl, hB⟩

end Go.Proofs.YtgoidphamkpmdaaGreat
