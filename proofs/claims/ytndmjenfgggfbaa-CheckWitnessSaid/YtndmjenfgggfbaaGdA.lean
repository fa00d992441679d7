/- Good states: isGood, validateContract, firstBad, Keeps, First of package check. -/
import Derived.Test.YtndmjenfgggfbaaFnd
import Derived.Test.YtndmjenfgggfbaaConB
import Derived.Test.YtndmjenfgggfbaaChkA
set_option linter.unusedVariables false
set_option linter.unusedSimpArgs false
namespace Go.Proofs.Ytndmjenfgggfbaa
open Go.RowKit Go.Shelf Tinker

/-- A good state of a contract. -/
def gdP (ps : List L) (out mn mx : Int) (s : List Int) : Bool := btw (endP ps s out) mn mx
/-- What validateContract answers. -/
def vpc (ps : List L) (lo hi : List Int) (out mn mx : Int) : Int := fe (vp ps) (vcon lo hi out mn mx)
theorem vcon_ok {lo hi : List Int} {out mn mx : Int} (h : vcon lo hi out mn mx = 0) : isCon lo hi out mn mx = true ∧ prd lo hi 4 ≤ 400 := by
  cases hc : isCon lo hi out mn mx
  · rw [vcon_no hc] at h; omega
  · rw [vcon_yes hc] at h
    refine ⟨rfl, ?_⟩
    split at h <;> omega
theorem okC_of {lo hi : List Int} {out mn mx : Int} (h : isCon lo hi out mn mx = true) : OkC lo hi := by
  obtain ⟨h1, h2, h3, _⟩ := isCon_ok h
  exact ⟨(vs_ok h1).1, (vs_ok h2).1, fun j hj => leTo_le h3 hj, (vs_ok h1).2, (vs_ok h2).2⟩
theorem vpc_ok {ps : List L} {lo hi : List Int} {out mn mx : Int} (h : vpc ps lo hi out mn mx = 0) : vp ps = 0 ∧ vcon lo hi out mn mx = 0 := by
  unfold vpc fe at h; split at h
  · exact ⟨by assumption, h⟩
  · contradiction
/-- A state of the box of a valid contract is valid. -/
theorem inBx_vs {lo hi s : List Int} (hc : OkC lo hi) (h : inBx lo hi 4 s) : vs s = 0 := by
  refine vs_ok' h.1 fun n hn => ?_
  obtain ⟨j, hj, e⟩ := List.mem_iff_getElem.1 hn
  have h4 := h.1
  have l4 := hc.l4
  have r4 := hc.h4
  have := h.2 j (by omega)
  have e1 : s.getD j 0 = n := by rw [List.getD_eq_getElem?_getD, List.getElem?_eq_getElem hj, e]; rfl
  have e2 : lo.getD j 0 ∈ lo := by rw [List.getD_eq_getElem?_getD, List.getElem?_eq_getElem (by omega)]; exact List.getElem_mem _
  have e3 : hi.getD j 0 ∈ hi := by rw [List.getD_eq_getElem?_getD, List.getElem?_eq_getElem (by omega)]; exact List.getElem_mem _
  have := hc.lb _ e2
  have := hc.hb _ e3
  omega

set_option maxRecDepth 100000 in
set_option maxHeartbeats 1000000 in
theorem isGood_any (a b a1 b1 : Option Addr) (ca cb n1 n2 c1 c2 : Nat) (ps : List L) (s : List Int) (out mn mx : Int) (w : World) (hp : LinesAt w a ps) (hs : IntsAt w b s) (hz : vr ps s = 0) (ho : isReg out = true) :
    Calls Try.prog 100 #[.slice a ps.length ca, .agg #[.slice a1 n1 c1, .slice b1 n2 c2, .int .i64 out, .int .i64 mn, .int .i64 mx], .slice b s.length cb] w fun e w' => e = .returned (.bool (gdP ps out mn mx s)) ∧ Below w.heap.size w w' := by
  have HE := Lib.hid (fun w hp hs => end_any a b ca cb ps s out w hp hs hz ho)
  have HI := Lib.hid (boxC_new (a := a1) (b := b1) (n := n1) (m := n2) (ca := c1) (cb := c2) (out := out) (mn := mn) (mx := mx) w)
  have hlx := hp_lt HI.out.bl
  have x2 := HI.out.c2
  have x3 := HI.out.c3
  have x4 := HI.out.c4
  unfold gdP
  generalize endP ps s out = V at HE
  clear hz ho
  go_enter Try.func100, Try.ntmps100
  go_wp2_with fail
  go_region_held3 (fun w' => w'.cell? ⟨w.heap.size, 2, none⟩ = some (.int .i64 out) ∧ w'.cell? ⟨w.heap.size, 3, none⟩ = some (.int .i64 mn) ∧ w'.cell? ⟨w.heap.size, 4, none⟩ = some (.int .i64 mx)) (first | exact ⟨x2, x3, x4⟩ | exact ⟨(hBa.cell (p := ⟨w.heap.size, _, none⟩) hlx).trans x2, (hBa.cell (p := ⟨w.heap.size, _, none⟩) hlx).trans x3, (hBa.cell (p := ⟨w.heap.size, _, none⟩) hlx).trans x4⟩ | go_keep) (first | (go_at_call 85; refine (HE.out _ ?_ ?_).mono ?_; exact (hp.below HI.out.drew.below (Nat.le_refl _)); exact (hs.below HI.out.drew.below (Nat.le_refl _)); rintro e wa ⟨rfl, hBa⟩) | (go_at_call 116; refine (isBetween_any _ _ _ _).mono ?_; rintro e wb ⟨rfl, rfl⟩))
  all_goals go_wp2_with fail
  all_goals go_ret
  all_goals exact ⟨rfl, (HI.out.drew.low hBa).below⟩

set_option maxRecDepth 100000 in
set_option maxHeartbeats 1000000 in
/-- The closure of firstBad. -/
theorem clos_first (w0 : World) (P C : Nat) (a a1 b1 : Option Addr) (ca n1 n2 c1 c2 : Nat) (ps : List L) (out mn mx : Int)
    (hP : w0.heap[P]? = some (.cells #[.slice a ps.length ca] 22 (0, 0)))
    (hC : w0.heap[C]? = some (.cells #[.slice a1 n1 c1, .slice b1 n2 c2, .int .i64 out, .int .i64 mn, .int .i64 mx] 57 (0, 0)))
    (W : World) (s : List Int) (b : Nat) (hB : Below w0.heap.size w0 W) (hp : LinesAt W a ps) (hs : IntsAt W (some ⟨b, 0, none⟩) s) (hz : vr ps s = 0) (h4 : s.length = 4) (ho : isReg out = true) :
    Calls Try.prog 118 #[.slice (some ⟨b, 0, none⟩) 4 4, .pointer (some ⟨P, 0, none⟩), .pointer (some ⟨C, 0, none⟩)] W fun e w' => e = .returned (.bool (gdP ps out mn mx s)) ∧ Below W.heap.size W w' := by
  have HG := Lib.hid (fun w hp hs => isGood_any a (some ⟨b, 0, none⟩) a1 b1 ca 4 n1 n2 c1 c2 ps s out mn mx w hp hs hz ho)
  rw [h4] at HG
  have q0 := hp_cell (hp_below hP hB (hp_lt hP)) (j := 0) (by rfl)
  have q2 := hp_below hC hB (hp_lt hC)
  have r0 := hp_cell q2 (j := 0) (by rfl)
  have r1 := hp_cell q2 (j := 1) (by rfl)
  have r2 := hp_cell q2 (j := 2) (by rfl)
  have r3 := hp_cell q2 (j := 3) (by rfl)
  have r4 := hp_cell q2 (j := 4) (by rfl)
  have HP := Lib.hid hp
  have HS := Lib.hid hs
  clear hz ho hp hs hP hC hB q2
  go_enter Try.func118, Try.ntmps118
  go_wp2_with fail
  go_at_call 100
  refine (HG.out _ HP.out HS.out).mono ?_
  rintro e w1 ⟨rfl, hB⟩
  go_wp2_with fail
  go_ret
  exact ⟨rfl, hB⟩

end Go.Proofs.Ytndmjenfgggfbaa
