/- Several texts in one. -/
import Derived.Test.YtigaklppdlknkaaGreatBlI
import Derived.Test.YtigaklppdlknkaaGreatRcn
import Derived.Test.YtigaklppdlknkaaGreatSorted
/- IsToBlame of blame: contract. -/
set_option linter.unusedVariables false
set_option linter.unusedSimpArgs false
namespace Go.Proofs.YtigaklppdlknkaaGreat
open Go.RowKit Tinker

/-- What IsToBlame answers. -/
def itC (ps : List L) (ts : List T) (ls : List Int) : Int := if vpt ps ts = 0 then lnC ps ls else vpt ps ts
def itB (ps : List L) (ts : List T) (ls : List Int) : Bool := if itC ps ts ls = 0 then capB ps (fT ps ts) ls else false
theorem fT_len (ps : List L) (ts : List T) : (fT ps ts).length ≤ ts.length := by unfold fT; rw [List.length_map]; exact pL_len _ _ _

set_option maxRecDepth 100000 in
set_option maxHeartbeats 2000000 in
theorem IsToBlame_any (a g c : Option Addr) (ca cg cc : Nat) (ps : List L) (ts : List T) (ls : List Int) (w : World) (hp : LinesAt w a ps) (hts : TestsAt w g ts) (hl : IntsAt w c ls) (hm0 : ts.length ≤ 1000) (hml : ∀ t ∈ ts, t.inn.length ≤ 1000) (hm : ls.length ≤ 1000) (hmp : ps.length ≤ 1000) :
    Calls Tryz.prog 16 #[.slice a ps.length ca, .slice g ts.length cg, .slice c ls.length cc] w fun e w' => e = .returned (.tuple #[.bool (itB ps ts ls), .int .i64 (itC ps ts ls)]) ∧ Below w.heap.size w w' := by
  have HV := Lib.hid (validateTestsB_any a g ca cg ps ts w hp hts hm0 hml)
  have HLN := Lib.hid (fun w hp hl => validateLines_any a c ca cc ps ls w hp hl hm hmp)
  have HFT := Lib.hid (fun w hp hts => failingT_any a g ca cg ps ts w hp hts hm0 hml)
  have HP := Lib.hid hp
  have HT := Lib.hid hts
  have HL := Lib.hid hl
  by_cases hz : vpt ps ts = 0
  · have hT := (vts_ok (vpt_ok hz).2).2
    have e1 : itC ps ts ls = lnC ps ls := by unfold itC; rw [if_pos hz]
    by_cases hln : lnC ps ls = 0
    · have h2 := (lnC_ok hln).2.2.1
      have h3 := fT_len ps ts
      have HCP := Lib.hid (fun g' cg' w hp hts hl => canPassAll_any a g' c ca cg' cc ps (fT ps ts) ls w hp hts hl (fun t ht => hT t (fT_mem ht)) (by omega) (by omega))
      have e2 : itB ps ts ls = capB ps (fT ps ts) ls := by unfold itB; rw [e1, if_pos hln]
      rw [e2, e1, hln]
      rw [hz] at HV
      rw [hln] at HLN
      generalize capB ps (fT ps ts) ls = R at HCP ⊢
      generalize fT ps ts = Z at HCP HFT
      clear hz hT e1 e2 hln h2 h3 hp hts hl hm hmp hml hm0
      go_enter Tryz.func16, Tryz.ntmps16
      go_wp2_with fail
      refine HV.out.mono ?_
      rintro e w1 ⟨rfl, hB⟩
      have HB1 := Lib.hid hB
      clear hB
      go_wp2_with fail
      refine (HLN.out _ (HP.out.below HB1.out (Nat.le_refl _)) (HL.out.below HB1.out (Nat.le_refl _))).mono ?_
      rintro e w2 ⟨rfl, hB⟩
      have HB2 := Lib.hid (HB1.out.trans (hB.mono HB1.out.size))
      clear hB
      go_wp2_with fail
      refine (HFT.out _ (HP.out.below HB2.out (Nat.le_refl _)) (HT.out.below HB2.out (Nat.le_refl _))).mono ?_
      rintro e w3 ⟨a3, c3, rfl, h3, hB⟩
      have HB3 := Lib.hid (HB2.out.trans (hB.mono HB2.out.size))
      have H3 := Lib.hid h3
      clear hB h3
      go_wp2_with fail
      refine (HCP.out _ _ _ (HP.out.below HB3.out (Nat.le_refl _)) H3.out (HL.out.below HB3.out (Nat.le_refl _))).mono ?_
      rintro e w4 ⟨rfl, hB⟩
      have HB4 := Lib.hid (HB3.out.trans (hB.mono HB3.out.size))
      clear hB
      go_wp2_with fail
      go_ret2
      exact ⟨rfl, HB4.out⟩
    · have e2 : itB ps ts ls = false := by unfold itB; rw [e1, if_neg hln]
      rw [e2, e1]
      rw [hz] at HV
      generalize lnC ps ls = co at HLN hln ⊢
      have hz1 : (co != 0) = true := by simpa using hln
      have hz2 : (co == 0) = false := by simpa using hln
      clear hz hT e1 e2 hln hp hts hl hm hmp hml hm0
      go_enter Tryz.func16, Tryz.ntmps16
      go_wp2_with fail
      refine HV.out.mono ?_
      rintro e w1 ⟨rfl, hB⟩
      have HB1 := Lib.hid hB
      clear hB
      go_wp2_with fail
      refine (HLN.out _ (HP.out.below HB1.out (Nat.le_refl _)) (HL.out.below HB1.out (Nat.le_refl _))).mono ?_
      rintro e w2 ⟨rfl, hB⟩
      go_wp2_with fail
      go_ret2
      exact ⟨rfl, HB1.out.trans (hB.mono HB1.out.size)⟩
  · have e1 : itC ps ts ls = vpt ps ts := by unfold itC; rw [if_neg hz]
    have e2 : itB ps ts ls = false := by unfold itB; rw [e1, if_neg hz]
    rw [e2, e1]
    generalize vpt ps ts = co at HV hz ⊢
    have hz1 : (co != 0) = true := by simpa using hz
    have hz2 : (co == 0) = false := by simpa using hz
    clear hz e1 e2 hp hts hl hm hmp hml hm0
    go_enter Tryz.func16, Tryz.ntmps16
    go_wp2_with fail
    refine HV.out.mono ?_
    rintro e w1 ⟨rfl, hB⟩
    go_wp2_with fail
    go_ret2
    exact ⟨rfl, hB⟩

end Go.Proofs.YtigaklppdlknkaaGreat

/- isToBlame and IsToBlame of the document's side: contracts. -/
set_option linter.unusedVariables false
set_option linter.unusedSimpArgs false
namespace Go.Proofs.YtigaklppdlknkaaGreat
open Go.RowKit Tinker

set_option maxRecDepth 100000 in
set_option maxHeartbeats 2000000 in
theorem risToBlame_any (a g c h : Option Addr) (ca cg cc ch : Nat) (ps : List L) (ts : List T) (ls : List Int) (w : World) (hp : LinesAt w a ps) (hts : TestsAt w g ts) (hl : IntsAt w c ls) (hf : RowsAt w h (pkL (-12) ls.length)) (hz : vpt ps ts = 0) (hln : lnC ps ls = 0) (hm0 : ts.length ≤ 1000) :
    Calls Tryz.prog 70 #[.slice a ps.length ca, .slice g ts.length cg, .slice c ls.length cc, .slice h (pkL (-12) ls.length).length ch] w fun e w' => e = .returned (.bool (capB ps (fT ps ts) ls)) ∧ Below w.heap.size w w' := by
  have h2 := (lnC_ok hln).2.2.1
  have hpl := pkL_len (l := -12) rfl (k := ls.length) h2
  have hT := (vts_ok (vpt_ok hz).2).2
  have hvt : ∀ t ∈ ts, vpt ps [t] = 0 := fun t ht => by
    have h1 := (vpt_ok hz).1
    have h3 := hT t ht
    unfold vpt fe
    rw [if_pos h1]
    unfold vts
    simp [h3]
  have HFL := Lib.hid (rFailing_any a g ca cg ps ts w hp hts)
  have HCP := Lib.hid (fun (t : T) (ht : t ∈ ts) b cb w hp hs hl hf => rcanPass_any a b c h ca cb cc ch ps t ls (pkL (-12) ls.length) w hp hs hl hf (hT t ht) (fun vs hv => pk_fC (hvt t ht) hln hv) (by omega) (by omega) (fun vs hv => by rw [pkL_in hv]; omega))
  have HPO := Lib.hid (fun t => show pickO ps t ls = (pkL (-12) ls.length).find? (pasF ps t ls) by unfold pickO; rw [compl_pk])
  have HCB := Lib.hid (show capB ps (fT ps ts) ls = (pL false ps ts).all (fun j => (pickO ps (tgD ts j) ls).isSome) by unfold capB fT; rw [List.all_map]; rfl)
  have HPL := Lib.hid (fun z h => pL_place (b := false) (ps := ps) (ts := ts) (z := z) h)
  have hll := pL_len false ps ts
  have HP := Lib.hid hp
  have HT := Lib.hid hts
  have HL := Lib.hid hl
  have HF := Lib.hid hf
  rw [hz] at HFL
  rw [HCB.out]
  generalize pL false ps ts = Z at HFL HPL hll ⊢
  generalize pkL (-12) ls.length = fs at HCP HPO HF hpl ⊢
  clear hp hts hl hf hz hln hT hvt HCB
  go_enter Tryz.func70, Tryz.ntmps70
  go_wp2_with fail
  refine HFL.out.mono ?_
  rintro e w1 ⟨a1, c1, rfl, h1, hB⟩
  have HB1 := Lib.hid hB
  have HI1 := Lib.hid h1
  clear hB h1 HFL
  go_wp2_with fail
  go_loopw [11] (fun s11 wr => ∃ k : Nat, k ≤ Z.length ∧ s11 = .int .i64 k ∧ (Z.take k).all (fun j => (pickO ps (tgD ts j) ls).isSome) = true ∧ Below w1.heap.size w1 wr) (fun s11 _ => Z.length - (intOf s11).toNat)
  case atStart => exact ⟨0, Nat.zero_le _, rfl, by simp, Below.refl _ _⟩
  case round =>
    obtain ⟨k, hk, rfl, hall, hB⟩ := hrel
    have HA := Lib.hid hall
    have HB := Lib.hid hB
    clear hall
    by_cases hlt : k < Z.length
    · obtain ⟨zb, zo, z, rfl, hzb, hz, z0⟩ := (HI1.out.below hB (Nat.le_refl _)).at_ hlt
      obtain ⟨j, rfl, hjl⟩ := HPL.out z (mem_of_get hz)
      have HBw := Lib.hid (HB1.out.trans (hB.mono HB1.out.size))
      obtain ⟨b, off, t, a', c', rfl, hlb, ht, c0, c1, c2, hi⟩ := (HT.out.below HBw.out (Nat.le_refl _)).at_ hjl
      have HX := Lib.hid hz
      have HTG := Lib.hid (tgD_at ht)
      have H1 := Lib.hid (HCP.out t (mem_of_get ht) a' c' wr (HP.out.below HBw.out (Nat.le_refl _)) hi (HL.out.below HBw.out (Nat.le_refl _)) (HF.out.below HBw.out (Nat.le_refl _)))
      rw [← HPO.out t] at H1
      generalize hq : pickO ps t ls = q at H1
      have HQ := Lib.hid (show (pickO ps (tgD ts (j : Int)) ls).isSome = q.isSome by rw [HTG.out, hq])
      clear hz hB ht hi hq HCP HPO HPL
      cases q with
      | none =>
        go_wp2_with fail
        refine H1.out.mono ?_
        rintro e w2 ⟨a2, c2', rfl, _, hB2⟩
        go_wp2_with fail
        go_ret
        exact ⟨ret_bool (all_not HX.out HQ.out).symm, HBw.out.trans (hB2.mono HBw.out.size)⟩
      | some y =>
        go_wp2_with fail
        refine H1.out.mono ?_
        rintro e w2 ⟨a2, c2', rfl, _, hB2⟩
        go_wp2_with fail
        go_roundw
        case rel => exact ⟨k + 1, by omega, by go_num, all_snoc HA.out HX.out HQ.out, HB.out.trans (hB2.mono HB.out.size)⟩
        case measure => simp [intOf]; omega
    · have HZ := Lib.hid (all_whole HA.out hlt)
      have HBw := Lib.hid (HB1.out.trans (hB.mono HB1.out.size))
      go_wp2_with fail
      go_ret
      exact ⟨ret_bool HZ.out.symm, HBw.out⟩

end Go.Proofs.YtigaklppdlknkaaGreat
