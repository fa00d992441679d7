/- CanPass of blame; lined of the document's side: contracts. -/
import Derived.Test.YtgoidphamkpmdaaGreatBlI
import Derived.Test.YtgoidphamkpmdaaGreatBlP
import Derived.BigQuiet
set_option linter.unusedVariables false
set_option linter.unusedSimpArgs false
namespace Go.Proofs.YtgoidphamkpmdaaGreat
open Go.RowKit Tinker

/-- What CanPass answers. -/
def cnC (ps : List L) (t : T) (ls : List Int) : Int := if vpt ps [t] = 0 then lnC ps ls else vpt ps [t]
def cnO (ps : List L) (t : T) (ls : List Int) : Option (List Int) := if cnC ps t ls = 0 then pickO ps t ls else none
def GivesOE (o : Option (List Int)) (c : Int) (w : World) (e : Ending) (w' : World) : Prop :=
  ∃ a k, e = .returned (.tuple #[.slice a (o.getD []).length k, .bool o.isSome, .int .i64 c]) ∧ IntsAt w' a (o.getD []) ∧ Below w.heap.size w w'

set_option maxRecDepth 100000 in
set_option maxHeartbeats 2000000 in
theorem CanPass_any (a b c : Option Addr) (ca cb cc : Nat) (ps : List L) (t : T) (ls : List Int) (w : World) (hp : LinesAt w a ps) (hs : IntsAt w b t.inn) (hl : IntsAt w c ls) (hm0 : t.inn.length ≤ 1000) (hm : ls.length ≤ 1000) (hmp : ps.length ≤ 1000) :
    Calls Tryz.prog 29 #[.slice a ps.length ca, .agg #[.slice b t.inn.length cb, .int .i64 t.out, .int .i64 t.want], .slice c ls.length cc] w (GivesOE (cnO ps t ls) (cnC ps t ls) w) := by
  have HI := Lib.hid (boxT_new (a := b) (n := t.inn.length) (ca := cb) (out := t.out) (want := t.want) w)
  have x0 := HI.out.c0
  have x1 := HI.out.c1
  have x2 := HI.out.c2
  have HV := Lib.hid (fun g w hp hts => validateTestsB_any a g ca 1 ps [t] w hp hts (by simp) (by simpa using hm0))
  have HLN := Lib.hid (fun w hp hl => validateLines_any a c ca cc ps ls w hp hl hm hmp)
  have HP := Lib.hid hp
  have HL := Lib.hid hl
  have HS0 := Lib.hid hs
  have HS := Lib.hid (hs.below HI.out.below (Nat.le_refl _))
  by_cases hz : vpt ps [t] = 0
  · have hT := (vts_ok (vpt_ok hz).2).2 t (by simp)
    have e1 : cnC ps t ls = lnC ps ls := by unfold cnC; rw [if_pos hz]
    by_cases hln : lnC ps ls = 0
    · have h2 := (lnC_ok hln).2.2.1
      have HPK := Lib.hid (fun w hp hi hl => pick_any a b c ca cb cc ps t ls w hp hi hl hT (by omega))
      have e2 : cnO ps t ls = pickO ps t ls := by unfold cnO; rw [e1, if_pos hln]
      rw [e2, e1, hln]
      rw [hz] at HV
      rw [hln] at HLN
      generalize pickO ps t ls = O at HPK ⊢
      clear hz hT e1 e2 hln h2 hp hs hl hm0 hm hmp
      go_enter Tryz.func29, Tryz.ntmps29
      go_wp2_with fail
      refine (HV.out _ _ ?_ ?_).mono ?_
      · exact HP.out.below (HI.out.below.alloc HI.out.below.size _) (Nat.le_refl _)
      · exact tests_one (by simp) HS.out
      rintro e w1 ⟨rfl, hB⟩
      have HI1 := Lib.hid ((HI.out.low ((Below.refl _ _).alloc (Nat.le_refl _) _)).low hB)
      clear hB x0 x1 x2 HI
      have x0 := HI1.out.c0
      have x1 := HI1.out.c1
      have x2 := HI1.out.c2
      go_wp2_with fail
      refine (HLN.out _ (HP.out.below HI1.out.below (Nat.le_refl _)) (HL.out.below HI1.out.below (Nat.le_refl _))).mono ?_
      rintro e w2 ⟨rfl, hB⟩
      have HI2 := Lib.hid (HI1.out.low hB)
      clear hB x0 x1 x2 HI1
      have x0 := HI2.out.c0
      have x1 := HI2.out.c1
      have x2 := HI2.out.c2
      go_wp2_with fail
      refine (HPK.out _ (HP.out.below HI2.out.below (Nat.le_refl _)) (HS0.out.below HI2.out.below (Nat.le_refl _)) (HL.out.below HI2.out.below (Nat.le_refl _))).mono ?_
      rintro e w3 ⟨a3, c3, rfl, h3, hB⟩
      have HB3 := Lib.hid (HI2.out.low hB).below
      have H3 := Lib.hid h3
      clear hB h3 x0 x1 x2 HI2
      go_wp2_with fail
      go_ret3
      exact ⟨a3, c3, rfl, H3.out, HB3.out⟩
    · have e2 : cnO ps t ls = none := by unfold cnO; rw [e1, if_neg hln]
      rw [e2, e1]
      rw [hz] at HV
      generalize lnC ps ls = co at HLN hln ⊢
      have hz1 : (co != 0) = true := by simpa using hln
      have hz2 : (co == 0) = false := by simpa using hln
      clear hz hT e1 e2 hln hp hs hl hm0 hm hmp
      go_enter Tryz.func29, Tryz.ntmps29
      go_wp2_with fail
      refine (HV.out _ _ ?_ ?_).mono ?_
      · exact HP.out.below (HI.out.below.alloc HI.out.below.size _) (Nat.le_refl _)
      · exact tests_one (by simp) HS.out
      rintro e w1 ⟨rfl, hB⟩
      have HI1 := Lib.hid ((HI.out.low ((Below.refl _ _).alloc (Nat.le_refl _) _)).low hB)
      clear hB x0 x1 x2 HI
      go_wp2_with fail
      refine (HLN.out _ (HP.out.below HI1.out.below (Nat.le_refl _)) (HL.out.below HI1.out.below (Nat.le_refl _))).mono ?_
      rintro e w2 ⟨rfl, hB⟩
      go_wp2_with fail
      go_ret3
      exact ⟨none, 0, rfl, .inl rfl, (HI1.out.low hB).below⟩
  · have e1 : cnC ps t ls = vpt ps [t] := by unfold cnC; rw [if_neg hz]
    have e2 : cnO ps t ls = none := by unfold cnO; rw [e1, if_neg hz]
    rw [e2, e1]
    generalize vpt ps [t] = co at HV hz ⊢
    have hz1 : (co != 0) = true := by simpa using hz
    have hz2 : (co == 0) = false := by simpa using hz
    clear hz e1 e2 hp hs hl hm0 hm hmp
    go_enter Tryz.func29, Tryz.ntmps29
    go_wp2_with fail
    refine (HV.out _ _ ?_ ?_).mono ?_
    · exact HP.out.below (HI.out.below.alloc HI.out.below.size _) (Nat.le_refl _)
    · exact tests_one (by simp) HS.out
    rintro e w1 ⟨rfl, hB⟩
    go_wp2_with fail
    go_ret3
    exact ⟨none, 0, rfl, .inl rfl, ((HI.out.low ((Below.refl _ _).alloc (Nat.le_refl _) _)).low hB).below⟩

end Go.Proofs.YtgoidphamkpmdaaGreat
