/- Put of package code: contract. -/
import Derived.Test.YtmideaancmpafacPutA
set_option linter.unusedVariables false
set_option linter.unusedSimpArgs false
namespace Go.Proofs.Ytmideaancmpafac
open Go.RowKit Tinker

/-- The box of a line lies in block x. -/
structure BoxL (x : Nat) (l : L) (w W : World) : Prop where
  bl : W.heap[x]? = some (.cells #[.int .i64 l.op, .int .i64 l.to, .int .i64 l.a, .int .i64 l.b] 43 (0, 0))
  below : Below w.heap.size w W
theorem BoxL.low {x : Nat} {l : L} {w W W1 W' : World} (h : BoxL x l w W) (hB : Below W1.heap.size W1 W') (he : W1 = W ∨ W1 = W.drew) : BoxL x l w W' := by
  have hb : Below W.heap.size W W' := by
    rcases he with rfl | rfl
    · exact hB
    · exact ⟨hB.os, hB.tape, hB.output, hB.size, hB.block⟩
  exact ⟨hp_below h.bl hb (hp_lt h.bl), h.below.trans (hb.mono h.below.size)⟩
theorem BoxL.new (l : L) (w : World) : BoxL w.heap.size l w (w.alloc (.cells #[.int .i64 l.op, .int .i64 l.to, .int .i64 l.a, .int .i64 l.b] 43)) := ⟨hp_new rfl, (Below.refl _ _).alloc (Nat.le_refl _) _⟩
theorem BoxL.c0 {x : Nat} {l : L} {w W : World} (h : BoxL x l w W) : W.cell? ⟨x, 0, none⟩ = some (.int .i64 l.op) := hp_cell h.bl (by rfl)
theorem BoxL.c1 {x : Nat} {l : L} {w W : World} (h : BoxL x l w W) : W.cell? ⟨x, 1, none⟩ = some (.int .i64 l.to) := hp_cell h.bl (by rfl)
theorem BoxL.c2 {x : Nat} {l : L} {w W : World} (h : BoxL x l w W) : W.cell? ⟨x, 2, none⟩ = some (.int .i64 l.a) := hp_cell h.bl (by rfl)
theorem BoxL.c3 {x : Nat} {l : L} {w W : World} (h : BoxL x l w W) : W.cell? ⟨x, 3, none⟩ = some (.int .i64 l.b) := hp_cell h.bl (by rfl)

set_option maxRecDepth 100000 in
set_option maxHeartbeats 1000000 in
theorem put_any (a : Option Addr) (cap : Nat) (ps : List L) (at_ : Int) (l : L) (w : World) (hp : LinesAt w a ps) (hm : ps.length ≤ 1000) :
    Calls Try.prog 19 #[.slice a ps.length cap, .int .i64 at_, lv l] w (GivesLinesE (putP ps at_ l) (putC ps at_ l) w) := by
  have HV := Lib.hid (fun w hp => validate_any a cap ps w hp)
  have HI := Lib.hid (fun w => validateLine_any l w)
  unfold lv at HI ⊢
  have hI := BoxL.new l w
  have c0 := hI.c0
  have c1 := hI.c1
  have c2 := hI.c2
  have c3 := hI.c3
  go_enter Try.func19, Try.ntmps19
  go_upto_region 1 with fail
  go_cut [8] (fun s8 wx => s8 = .int .i64 (fe (vp ps) (vl l)) ∧ BoxL w.heap.size l w wx)
  case first =>
    go_region_with (first | (go_at_call 34; refine (HV.out _ (hp.below (hI.below.drew) (Nat.le_refl _))).mono ?_; rintro e wa ⟨rfl, hBa⟩; replace hI := hI.low hBa (by first | exact .inl rfl | exact .inr rfl); clear hBa; clear c0 c1 c2 c3; have c0 := hI.c0; have c1 := hI.c1; have c2 := hI.c2; have c3 := hI.c3) | (go_at_call 34; refine (HV.out _ (hp.below hI.below (Nat.le_refl _))).mono ?_; rintro e wa ⟨rfl, hBa⟩; replace hI := hI.low hBa (by first | exact .inl rfl | exact .inr rfl); clear hBa; clear c0 c1 c2 c3; have c0 := hI.c0; have c1 := hI.c1; have c2 := hI.c2; have c3 := hI.c3) | (go_at_call 50; refine (HI.out _).mono ?_; rintro e wa ⟨rfl, hBa⟩; replace hI := hI.low hBa (by first | exact .inl rfl | exact .inr rfl); clear hBa; clear c0 c1 c2 c3; have c0 := hI.c0; have c1 := hI.c1; have c2 := hI.c2; have c3 := hI.c3) | (go_at_call 33; refine (firstError_two _ _ _ _).mono ?_; rintro e wb ⟨rfl, rfl⟩))
    all_goals go_wp2_with fail
    all_goals go_meet
    all_goals refine ⟨rfl, ?_⟩
    all_goals exact hI.low ((Below.refl _ _).alloc (Nat.le_refl _) _) (by first | exact .inl rfl | exact .inr rfl)
  case rest =>
    clear hI c0 c1 c2 c3
    obtain ⟨rfl, hI⟩ := hcut
    by_cases hz : fe (vp ps) (vl l) = 0
    · cases hb : btw at_ 0 ((ps.length : Int) - 1)
      · have HE := Lib.hid (show putC ps at_ l = 4 by unfold putC; rw [if_pos hz, hb]; rfl)
        have HP := Lib.hid (show putP ps at_ l = [] by unfold putP; rw [HE.out]; rfl)
        have HW := Lib.hid (fun w => hasLine_any a ps.length cap at_ w hm)
        rw [hb] at HW
        have hz1 : (fe (vp ps) (vl l) != 0) = false := by simp [hz]
        have hz2 : (fe (vp ps) (vl l) == 0) = true := by simp [hz]
        have hB := hI.below
        generalize hcc : fe (vp ps) (vl l) = c at hz1 hz2
        clear hcc
        clear hz hb hI
        go_wp2_with (go_at_call 51; refine (HW.out _).mono ?_; rintro e w' ⟨rfl, rfl⟩)
        go_ret2
        rw [HP.out, HE.out]
        exact givesLinesE_nil hB
      · have HE := Lib.hid (show putC ps at_ l = 0 by unfold putC; rw [if_pos hz, hb]; rfl)
        have HP := Lib.hid (show putP ps at_ l = ps.set at_.toNat l by unfold putP; rw [HE.out]; rfl)
        have HW := Lib.hid (fun w => hasLine_any a ps.length cap at_ w hm)
        rw [hb] at HW
        obtain ⟨at0, at1⟩ := btw_true.1 hb
        have HC := Lib.hid (fun w hp => cloneLines_any a cap ps w hp hm)
        have hz1 : (fe (vp ps) (vl l) != 0) = false := by simp [hz]
        have hz2 : (fe (vp ps) (vl l) == 0) = true := by simp [hz]
        generalize hcc : fe (vp ps) (vl l) = c at hz1 hz2
        clear hcc
        have hB4 := hI.below
        have HIb := Lib.hid hI.bl
        clear hz hb hI
        go_wp2_with (go_at_call 51; refine (HW.out _).mono ?_; rintro e w' ⟨rfl, rfl⟩)
        refine (HC.out _ (hp.below hB4 (Nat.le_refl _))).mono ?_
        intro e w3 hG
        obtain ⟨a1, c1, rfl, hown, hB5⟩ := hG
        have hlt : at_.toNat < ps.length := by omega
        obtain ⟨g, rfl⟩ := own_form hown (by omega)
        have hb3 := hp_below HIb.out hB5 (hp_lt HIb.out)
        have c0 := hp_cell hb3 (j := 0) (by rfl)
        have c1 := hp_cell hb3 (j := 1) (by rfl)
        have c2 := hp_cell hb3 (j := 2) (by rfl)
        have c3 := hp_cell hb3 (j := 3) (by rfl)
        have hB6 := hB4.trans (hB5.mono hB4.size)
        have hown2 := own_mono hown hB4.size
        have HTh := Lib.hid (own_there hown hlt)
        have HPL := Lib.hid (puts_line hown2 hlt l hB6)
        have HO := Lib.hid (one_line l)
        clear hown hown2 hB5 hb3 HIb hB4
        go_wp2_with (refine wpList_store_mid rfl 43 (.tmp 28) (.tmp 27) rfl g (at_.toNat * 4) #[.int .i64 l.op, .int .i64 l.to, .int .i64 l.a, .int .i64 l.b] rfl rfl HTh.out info_ln HO.out ?_)
        go_ret2
        rw [HP.out, HE.out]
        exact ⟨_, _, by rw [List.length_set]; rfl, by rw [List.length_set]; exact HPL.out.1, HPL.out.2⟩
    · have HE := Lib.hid (show putC ps at_ l = fe (vp ps) (vl l) by unfold putC; rw [if_neg hz])
      have HP := Lib.hid (show putP ps at_ l = [] by unfold putP; rw [HE.out, if_neg hz])
      generalize hcc : fe (vp ps) (vl l) = c at hz HE
      have hz1 : (c != 0) = true := by simpa using hz
      have hz2 : (c == 0) = false := by simpa using hz
      have hB := hI.below
      clear hz hI
      go_wp2_with fail
      go_ret2
      rw [HP.out, HE.out]
      exact givesLinesE_nil hB

end Go.Proofs.Ytmideaancmpafac
