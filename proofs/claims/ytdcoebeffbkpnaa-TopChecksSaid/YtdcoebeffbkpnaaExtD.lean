/- Extremes of package check, for all contracts. -/
import Derived.Test.YtdcoebeffbkpnaaExtC
import Derived.Test.YtdcoebeffbkpnaaBadD
set_option linter.unusedVariables false
set_option linter.unusedSimpArgs false
namespace Go.Proofs.Ytdcoebeffbkpnaa
open Go.RowKit Go.Shelf Tinker

/-- What the extremes tell. -/
theorem xtl_iff (ps : List L) (out mn mx : Int) : ∀ (l : List (List Int)), mn ≤ (xtl ps out l).1 ↔ (mn ≤ 999 ∧ ∀ s ∈ l, mn ≤ endP ps s out) := by
  intro l
  have h : ∀ (l : List (List Int)) (p : Int × Int), mn ≤ (l.foldl (fun p s => (min p.1 (endP ps s out), max p.2 (endP ps s out))) p).1 ↔ (mn ≤ p.1 ∧ ∀ s ∈ l, mn ≤ endP ps s out) := by
    intro l
    induction l with
    | nil => intro p; simp
    | cons x t ih =>
      intro p
      rw [List.foldl_cons, ih]
      simp only [List.mem_cons, forall_eq_or_imp]
      rw [show (mn ≤ min p.1 (endP ps x out)) ↔ (mn ≤ p.1 ∧ mn ≤ endP ps x out) by omega]
      exact ⟨fun ⟨⟨a, b⟩, c⟩ => ⟨a, b, c⟩, fun ⟨a, b, c⟩ => ⟨⟨a, b⟩, c⟩⟩
  exact h l _
theorem xtl_iff2 (ps : List L) (out mn mx : Int) : ∀ (l : List (List Int)), (xtl ps out l).2 ≤ mx ↔ (-999 ≤ mx ∧ ∀ s ∈ l, endP ps s out ≤ mx) := by
  intro l
  have h : ∀ (l : List (List Int)) (p : Int × Int), (l.foldl (fun p s => (min p.1 (endP ps s out), max p.2 (endP ps s out))) p).2 ≤ mx ↔ (p.2 ≤ mx ∧ ∀ s ∈ l, endP ps s out ≤ mx) := by
    intro l
    induction l with
    | nil => intro p; simp
    | cons x t ih =>
      intro p
      rw [List.foldl_cons, ih]
      simp only [List.mem_cons, forall_eq_or_imp]
      rw [show (max p.2 (endP ps x out) ≤ mx) ↔ (p.2 ≤ mx ∧ endP ps x out ≤ mx) by omega]
      exact ⟨fun ⟨⟨a, b⟩, c⟩ => ⟨a, b, c⟩, fun ⟨a, b, c⟩ => ⟨⟨a, b⟩, c⟩⟩
  exact h l _
theorem xtl_le (ps : List L) (out : Int) (l : List (List Int)) (h : l ≠ []) : (xtl ps out l).1 ≤ (xtl ps out l).2 := by
  obtain ⟨s, t, rfl⟩ := List.exists_cons_of_ne_nil h
  have h1 := ((xtl_iff ps out (xtl ps out (s :: t)).1 0 (s :: t)).1 (Int.le_refl _)).2 s (by simp)
  have h2 := ((xtl_iff2 ps out 0 (xtl ps out (s :: t)).2 (s :: t)).1 (Int.le_refl _)).2 s (by simp)
  omega
theorem allS_ne {lo hi : List Int} (hc : OkC lo hi) : allS lo hi ≠ [] := by
  obtain ⟨_, tl, hh⟩ := exTo_chn lo hi hc.l4 hc.le 4 (Nat.le_refl _)
  unfold allS; rw [hh]; simp
theorem exV_le {ps : List L} {lo hi : List Int} {out mn mx : Int} (h : vpc ps lo hi out mn mx = 0) : (exV ps lo hi out mn mx).1 ≤ (exV ps lo hi out mn mx).2 := by
  rw [exV_ok h]; exact xtl_le _ _ _ (allS_ne (okC_of (vcon_ok (vpc_ok h).2).1))
theorem kpB_exV {ps : List L} {lo hi : List Int} {out mn mx : Int} (h : vpc ps lo hi out mn mx = 0) : kpB ps lo hi out mn mx = (decide (mn ≤ (exV ps lo hi out mn mx).1) && decide ((exV ps lo hi out mn mx).2 ≤ mx)) := by
  have hcon := (vcon_ok (vpc_ok h).2).1
  obtain ⟨_, _, _, _, hb1, hb2, hb3⟩ := isCon_ok hcon
  have hb1 := btw_true.1 hb1
  have hb2 := btw_true.1 hb2
  rw [exV_ok h, kpB_ok h, fbL_ok h]
  rw [Bool.eq_iff_iff, Bool.and_eq_true, decide_eq_true_eq, decide_eq_true_eq, xtl_iff ps out mn mx, xtl_iff2 ps out mn mx]
  rw [Bool.not_eq_true', Option.isSome_eq_false_iff, Option.isNone_iff_eq_none, List.find?_eq_none]
  constructor
  · intro hg
    have hg2 : ∀ s ∈ allS lo hi, mn ≤ endP ps s out ∧ endP ps s out ≤ mx := fun s hs => btw_true.1 (by simpa [gdP] using hg s hs)
    refine ⟨⟨?_, fun s hs => (hg2 s hs).1⟩, ?_, fun s hs => (hg2 s hs).2⟩ <;> omega
  · rintro ⟨⟨_, h1⟩, _, h2⟩ s hs
    have : gdP ps out mn mx s = true := btw_true.2 ⟨h1 s hs, h2 s hs⟩
    simp [this]

set_option maxRecDepth 100000 in
set_option maxHeartbeats 1000000 in
theorem extremes_any (a a1 b1 : Option Addr) (ca c1 c2 : Nat) (ps : List L) (lo hi : List Int) (out mn mx : Int) (w : World) (hp : LinesAt w a ps) (hl : IntsAt w a1 lo) (hh : IntsAt w b1 hi) (hm : lo.length ≤ 1000) (hm2 : hi.length ≤ 1000) :
    Calls Try.prog 16 #[.slice a ps.length ca, .agg #[.slice a1 lo.length c1, .slice b1 hi.length c2, .int .i64 out, .int .i64 mn, .int .i64 mx]] w fun e w' => e = .returned (.tuple #[.int .i64 (exV ps lo hi out mn mx).1, .int .i64 (exV ps lo hi out mn mx).2, .int .i64 (vpc ps lo hi out mn mx)]) ∧ Below w.heap.size w w' := by
  by_cases hz : vpc ps lo hi out mn mx = 0
  · obtain ⟨hv, hcon⟩ := vpc_ok hz
    obtain ⟨hcon, _⟩ := vcon_ok hcon
    have hc := okC_of hcon
    obtain ⟨_, _, _, ho, _⟩ := isCon_ok hcon
    have h4 := hc.l4
    have k4 := hc.h4
    have hN : (allS lo hi).length ≤ 400 := by
      have := exTo_len (lo := lo) (hi := hi) 4 (fun j hj => hc.le j hj)
      unfold allS; omega
    obtain ⟨lb, lf, rfl, hlb, hl2⟩ := hl.resolve_left (by rintro rfl; simp at h4)
    obtain ⟨hb, hf, rfl, hhb, hh2⟩ := hh.resolve_left (by rintro rfl; simp at k4)
    rw [exV_ok hz, hz, h4, k4]
    exact extremes_ok a ca lb lf hb hf c1 c2 ps lo hi out mn mx w hz hv hp hc ho hlb hhb hl2 hh2 hN
  · have HV := Lib.hid (fun w hp hl hh => validateContractP_any a a1 b1 ca c1 c2 ps lo hi out mn mx w hp hl hh hm hm2)
    rw [exV_no hz]
    have hI0 : ScnI w.heap.size (.slice a ps.length ca) #[.slice a1 lo.length c1, .slice b1 hi.length c2, .int .i64 out, .int .i64 mn, .int .i64 mx] w ((w.alloc (.cells #[.slice a ps.length ca] 32)).alloc (.cells #[.slice a1 lo.length c1, .slice b1 hi.length c2, .int .i64 out, .int .i64 mn, .int .i64 mx] 36)) :=
      ⟨hp_alloc (hp_new rfl), hp_new (by simp), ((Below.refl _ _).alloc (Nat.le_refl _) _).alloc (by simp) _⟩
    have HI0 := Lib.hid hI0
    have x0 := hp_cell hI0.bp (j := 0) (by rfl)
    have y0 := hp_cell hI0.bc (j := 0) (by rfl)
    have y1 := hp_cell hI0.bc (j := 1) (by rfl)
    have y2 := hp_cell hI0.bc (j := 2) (by rfl)
    have y3 := hp_cell hI0.bc (j := 3) (by rfl)
    have y4 := hp_cell hI0.bc (j := 4) (by rfl)
    have HP := Lib.hid hp
    have HL := Lib.hid hl
    have HH := Lib.hid hh
    generalize vpc ps lo hi out mn mx = V at HV hz
    have hz1 : (V != 0) = true := by simpa using hz
    have hz2 : (V == 0) = false := by simpa using hz
    clear hI0 hz hp hl hh hm hm2
    go_enter Try.func16, Try.ntmps16
    go_wp2_with fail
    refine (HV.out _ (HP.out.below HI0.out.below (Nat.le_refl _)) (HL.out.below HI0.out.below (Nat.le_refl _)) (HH.out.below HI0.out.below (Nat.le_refl _))).mono ?_
    rintro e wa ⟨rfl, hB⟩
    have HJ := Lib.hid (HI0.out.low hB)
    clear hB x0 y0 y1 y2 y3 y4
    go_wp2_with fail
    go_ret3
    exact ⟨rfl, HJ.out.below⟩

end Go.Proofs.Ytdcoebeffbkpnaa
