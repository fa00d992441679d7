/- Tests in the document's answers; Passes of both: contracts. -/
import Derived.Test.YtdcoebeffbkpnaaChkE
import Derived.Test.YtdcoebeffbkpnaaChkA
set_option linter.unusedVariables false
set_option linter.unusedSimpArgs false
namespace Go.Proofs.Ytdcoebeffbkpnaa
open Go.RowKit Tinker

theorem tests_one {w : World} {n : Nat} {a : Option Addr} {ca : Nat} {t : T} (h : w.heap.size = n) (hi : IntsAt w a t.inn) :
    TestsAt (w.alloc (.cells #[.slice a t.inn.length ca, .int .i64 t.out, .int .i64 t.want] 49)) (some ⟨n, 0, none⟩) [t] := by
  subst h
  refine .inr ⟨w.heap.size, 0, rfl, by simp, fun j u hj => ?_⟩
  match j, hj with
  | 0, hj =>
    simp at hj; subst hj
    exact ⟨a, ca, hp_cell (hp_new rfl) rfl, hp_cell (hp_new rfl) rfl, hp_cell (hp_new rfl) rfl, hi.below ((Below.refl _ _).alloc (Nat.le_refl _) _) (Nat.le_refl _)⟩
  | j + 1, hj => simp at hj

/-- What Passes answers. -/
def passV (ps : List L) (t : T) : Bool := if vpt ps [t] = 0 then pas ps t else false

set_option maxRecDepth 100000 in
set_option maxHeartbeats 1000000 in
theorem passes_C (a b : Option Addr) (ca cb : Nat) (ps : List L) (t : T) (w : World) (hp : LinesAt w a ps) (hs : IntsAt w b t.inn) (hm : t.inn.length ≤ 1000) :
    Calls Try.prog 19 #[.slice a ps.length ca, .agg #[.slice b t.inn.length cb, .int .i64 t.out, .int .i64 t.want]] w fun e w' => e = .returned (.tuple #[.bool (passV ps t), .int .i64 (vpt ps [t])]) ∧ Below w.heap.size w w' := by
  have HI := Lib.hid (boxT_new (a := b) (n := t.inn.length) (ca := cb) (out := t.out) (want := t.want) w)
  have x0 := HI.out.c0
  have x1 := HI.out.c1
  have x2 := HI.out.c2
  have HV := Lib.hid (fun g w hp hts => validateTestsP_any a g ca 1 ps [t] w hp hts (by simp) (by simpa using hm))
  have HS := Lib.hid (hs.below HI.out.below (Nat.le_refl _))
  by_cases hz : vpt ps [t] = 0
  · have HP := Lib.hid (fun w hp hs => passes_any a b ca cb ps t w hp hs (vpt_ok hz).1 ((vts_ok (vpt_ok hz).2).2 t (by simp)))
    have HX := Lib.hid (show passV ps t = pas ps t by unfold passV; rw [if_pos hz])
    rw [HX.out, hz]
    rw [hz] at HV
    clear hz
    go_enter Try.func19, Try.ntmps19
    go_wp2_with fail
    refine (HV.out _ _ ?_ ?_).mono ?_
    · exact hp.below (HI.out.below.alloc HI.out.below.size _) (Nat.le_refl _)
    · exact tests_one (by simp) HS.out
    rintro e w1 ⟨rfl, hB⟩
    have HI1 := Lib.hid ((HI.out.low ((Below.refl _ _).alloc (Nat.le_refl _) _)).low hB)
    clear hB x0 x1 x2
    have x0 := HI1.out.c0
    have x1 := HI1.out.c1
    have x2 := HI1.out.c2
    go_wp2_with fail
    refine (HP.out _ (hp.below HI1.out.below (Nat.le_refl _)) (hs.below HI1.out.below (Nat.le_refl _))).mono ?_
    rintro e w2 ⟨rfl, hB⟩
    go_wp2_with fail
    go_ret2
    exact ⟨rfl, (HI1.out.low hB).below⟩
  · have HX := Lib.hid (show passV ps t = false by unfold passV; rw [if_neg hz])
    rw [HX.out]
    generalize vpt ps [t] = c at HV hz
    have hz1 : (c != 0) = true := by simpa using hz
    have hz2 : (c == 0) = false := by simpa using hz
    clear hz
    go_enter Try.func19, Try.ntmps19
    go_wp2_with fail
    refine (HV.out _ _ ?_ ?_).mono ?_
    · exact hp.below (HI.out.below.alloc HI.out.below.size _) (Nat.le_refl _)
    · exact tests_one (by simp) HS.out
    rintro e w1 ⟨rfl, hB⟩
    have HI1 := Lib.hid ((HI.out.low ((Below.refl _ _).alloc (Nat.le_refl _) _)).low hB)
    go_wp2_with fail
    go_ret2
    exact ⟨rfl, HI1.out.below⟩

end Go.Proofs.Ytdcoebeffbkpnaa
