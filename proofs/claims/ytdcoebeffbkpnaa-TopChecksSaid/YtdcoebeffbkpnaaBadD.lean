/- Bad, Extremes, Differ of package check, for all contracts. -/
import Derived.Test.YtdcoebeffbkpnaaBadC
import Derived.Test.YtdcoebeffbkpnaaRdf
set_option linter.unusedVariables false
set_option linter.unusedSimpArgs false
namespace Go.Proofs.Ytdcoebeffbkpnaa
open Go.RowKit Go.Shelf Tinker

theorem kpB_bdN {ps : List L} {lo hi : List Int} {out mn mx : Int} (h : vpc ps lo hi out mn mx = 0) : kpB ps lo hi out mn mx = decide (bdN ps lo hi out mn mx = 0) := by
  rw [kpB_len h, bdN_ok h]
theorem fbL_in {ps : List L} {lo hi : List Int} {out mn mx : Int} {s : List Int} (h : fbL ps lo hi out mn mx = some s) : s ∈ allS lo hi ∧ gdP ps out mn mx s = false := by
  unfold fbL at h
  split at h
  · exact ⟨List.mem_of_find?_eq_some h, by simpa using List.find?_some h⟩
  · contradiction
theorem fbL_len (ps : List L) (lo hi : List Int) (out mn mx : Int) : ((fbL ps lo hi out mn mx).getD []).length ≤ 4 := by
  cases h : fbL ps lo hi out mn mx with
  | none => simp
  | some s => rw [show (some s).getD [] = s from rfl, (exTo_in lo hi 4 s (fbL_in h).1).1]; exact Nat.le_refl _
theorem dfL_len (ps qs : List L) (lo hi : List Int) (out mn mx : Int) : ((dfL ps qs lo hi out mn mx).getD []).length ≤ 4 := by
  cases h : dfL ps qs lo hi out mn mx with
  | none => simp
  | some s =>
    unfold dfL at h
    split at h
    · rw [show (some s).getD [] = s from rfl, (exTo_in lo hi 4 s (List.mem_of_find?_eq_some h)).1]; exact Nat.le_refl _
    · contradiction

set_option maxRecDepth 100000 in
set_option maxHeartbeats 1000000 in
theorem bad_any (a a1 b1 : Option Addr) (ca c1 c2 : Nat) (ps : List L) (lo hi : List Int) (out mn mx : Int) (w : World) (hp : LinesAt w a ps) (hl : IntsAt w a1 lo) (hh : IntsAt w b1 hi) (hm : lo.length ≤ 1000) (hm2 : hi.length ≤ 1000) :
    Calls Try.prog 15 #[.slice a ps.length ca, .agg #[.slice a1 lo.length c1, .slice b1 hi.length c2, .int .i64 out, .int .i64 mn, .int .i64 mx]] w fun e w' => e = .returned (.tuple #[.int .i64 (bdN ps lo hi out mn mx), .int .i64 (vpc ps lo hi out mn mx)]) ∧ Below w.heap.size w w' := by
  by_cases hz : vpc ps lo hi out mn mx = 0
  · obtain ⟨hv, hcon⟩ := vpc_ok hz
    obtain ⟨hcon, _⟩ := vcon_ok hcon
    have hc := okC_of hcon
    obtain ⟨_, _, _, ho, _⟩ := isCon_ok hcon
    have h4 := hc.l4
    have k4 := hc.h4
    have hN : (allS lo hi).length ≤ 400 := by
      have := exTo_len (lo := lo) (hi := hi) 4 (fun j hj => hc.le j hj)
      unfold allS; omega
    obtain ⟨lb, lf, rfl, hlb, hl2⟩ := hl.resolve_left (by rintro rfl; simp at h4)
    obtain ⟨hb, hf, rfl, hhb, hh2⟩ := hh.resolve_left (by rintro rfl; simp at k4)
    rw [bdN_ok hz, hz, h4, k4]
    exact bad_ok a ca lb lf hb hf c1 c2 ps lo hi out mn mx w hz hv hp hc ho hlb hhb hl2 hh2 hN
  · have HV := Lib.hid (fun w hp hl hh => validateContractP_any a a1 b1 ca c1 c2 ps lo hi out mn mx w hp hl hh hm hm2)
    rw [bdN_no hz]
    have hI0 : ScnI w.heap.size (.slice a ps.length ca) #[.slice a1 lo.length c1, .slice b1 hi.length c2, .int .i64 out, .int .i64 mn, .int .i64 mx] w ((w.alloc (.cells #[.slice a ps.length ca] 32)).alloc (.cells #[.slice a1 lo.length c1, .slice b1 hi.length c2, .int .i64 out, .int .i64 mn, .int .i64 mx] 36)) :=
      ⟨hp_alloc (hp_new rfl), hp_new (by simp), ((Below.refl _ _).alloc (Nat.le_refl _) _).alloc (by simp) _⟩
    have HI0 := Lib.hid hI0
    have x0 := hp_cell hI0.bp (j := 0) (by rfl)
    have y0 := hp_cell hI0.bc (j := 0) (by rfl)
    have y1 := hp_cell hI0.bc (j := 1) (by rfl)
    have y2 := hp_cell hI0.bc (j := 2) (by rfl)
    have y3 := hp_cell hI0.bc (j := 3) (by rfl)
    have y4 := hp_cell hI0.bc (j := 4) (by rfl)
    have HP := Lib.hid hp
    have HL := Lib.hid hl
    have HH := Lib.hid hh
    generalize vpc ps lo hi out mn mx = V at HV hz
    have hz1 : (V != 0) = true := by simpa using hz
    have hz2 : (V == 0) = false := by simpa using hz
    clear hI0 hz hp hl hh hm hm2
    go_enter Try.func15, Try.ntmps15
    go_wp2_with fail
    refine (HV.out _ (HP.out.below HI0.out.below (Nat.le_refl _)) (HL.out.below HI0.out.below (Nat.le_refl _)) (HH.out.below HI0.out.below (Nat.le_refl _))).mono ?_
    rintro e wa ⟨rfl, hB⟩
    have HJ := Lib.hid (HI0.out.low hB)
    clear hB x0 y0 y1 y2 y3 y4
    go_wp2_with fail
    go_ret2
    exact ⟨rfl, HJ.out.below⟩

end Go.Proofs.Ytdcoebeffbkpnaa
