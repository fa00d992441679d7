/- TopSpans, its facts and contracts: the walk. -/
import Derived.Test.YtmpgaccpdglhkaaSpM
import Derived.Test.YtmpgaccpdglhkaaSpR
import Derived.Test.YtmpgaccpdglhkaaSpO
import Derived.Test.YtmpgaccpdglhkaaSpS
import Derived.Test.YtmpgaccpdglhkaaRunC
set_option linter.unusedVariables false
set_option linter.unusedSimpArgs false
namespace Go.Proofs.Ytmpgaccpdglhkaa
open Go.RowKit Tinker

theorem sub_hull {a b c : List Rg} (ha : a.length = 4) (hb : b.length = 4) (h1 : subB a c = true) (h2 : subB b c = true) : subB (hullB a b) c = true := by
  rw [subB_iff] at *; intro k hk
  have a1 := subG_iff.1 (h1 k hk); have a2 := subG_iff.1 (h2 k hk)
  rw [hullB_at ha hb hk, subG_iff]; unfold hullG; simp only; omega
theorem sub_pt {b : List Rg} {s : List Int} (h4 : s.length = 4) (h : memB b s = true) : subB (ptB s) b = true := by
  rw [subB_iff]; intro k hk
  have a1 := inG_iff.1 (memB_iff.1 h k hk)
  rw [ptB_at (by omega), subG_iff]
  exact ⟨a1.1, a1.2⟩
theorem sz_pt {s : List Int} (h4 : s.length = 4) : szB (ptB s) = 0 := by
  unfold szB
  simp only [szTo]
  rw [ptB_at (by omega), ptB_at (by omega), ptB_at (by omega), ptB_at (by omega)]
  simp
theorem mem_pt2 {s : List Int} (h : okS s) : memB (ptB s) s = true := mem_pt h.1
/-- What is there lies in what both halves of the box lead to. -/
theorem half_in {ps : List L} {lo hi : List Int} {out mn mx r : Int} (hz : vpc ps lo hi out mn mx = 0) (hr : isReg r = true) (hne : (gAt (conB lo hi) r).lo ≠ (gAt (conB lo hi) r).hi) :
    (gAt (hullB (endB ps (loH (conB lo hi) r)) (endB ps (hiH (conB lo hi) r))) out).lo ≤ (exV ps lo hi out mn mx).1 ∧ (exV ps lo hi out mn mx).2 ≤ (gAt (hullB (endB ps (loH (conB lo hi) r)) (endB ps (hiH (conB lo hi) r))) out).hi := by
  obtain ⟨z1, z2⟩ := vpc_ok hz
  obtain ⟨q1, q2, q3, q4, _⟩ := isCon_ok (vcon_ok z2).1
  obtain ⟨o0, o3⟩ := isReg_iff.1 q4
  obtain ⟨r0, r3⟩ := isReg_iff.1 hr
  have hc := okC_of (vcon_ok z2).1
  have hb := okB_conV z2
  obtain ⟨b1, b2⟩ := halves_ok hb r0 r3 hne
  have hv := (vp_ok z1).2
  have l1 := end_ok hv b1
  have l2 := end_ok hv b2
  have e : gAt (hullB (endB ps (loH (conB lo hi) r)) (endB ps (hiH (conB lo hi) r))) out = hullG (gAt (endB ps (loH (conB lo hi) r)) out) (gAt (endB ps (hiH (conB lo hi) r)) out) := hullB_at l1.l4 l2.l4 (by omega)
  have g1 := okG_iff.1 (l1.g o0 o3)
  have g2 := okG_iff.1 (l2.g o0 o3)
  have key : ∀ s ∈ allS lo hi, (gAt (hullB (endB ps (loH (conB lo hi) r)) (endB ps (hiH (conB lo hi) r))) out).lo ≤ endP ps s out ∧ endP ps s out ≤ (gAt (hullB (endB ps (loH (conB lo hi) r)) (endB ps (hiH (conB lo hi) r))) out).hi := fun s hs => by
    obtain ⟨h1, h2⟩ := all_con hc hs
    have hm := mem_con hc.l4 hc.h4 h1
    rw [(halves_mem (s := s) hb r0 r3).1, Bool.or_eq_true] at hm
    rw [e]
    unfold hullG
    rcases hm with hm | hm
    · have := inG_iff.1 (end_in hv b1 h2 hm o0 o3); simp only; omega
    · have := inG_iff.1 (end_in hv b2 h2 hm o0 o3); simp only; omega
  have hg : (gAt (hullB (endB ps (loH (conB lo hi) r)) (endB ps (hiH (conB lo hi) r))) out).lo ≤ 999 ∧ -999 ≤ (gAt (hullB (endB ps (loH (conB lo hi) r)) (endB ps (hiH (conB lo hi) r))) out).hi := by
    rw [e]; unfold hullG; simp only; omega
  rw [exV_ok hz]
  exact ⟨(xtl_iff ps out _ 0 (allS lo hi)).2 ⟨hg.1, fun s hs => (key s hs).1⟩, (xtl_iff2 ps out 0 _ (allS lo hi)).2 ⟨hg.2, fun s hs => (key s hs).2⟩⟩
theorem kReached (W : World) (A B : Addr) (h1 : LinesAt W (some A) [⟨7, 1, 0, 1⟩, ⟨1, 2, 9, 0⟩]) (h2 : RangesAt W (some B) [⟨3, 4⟩, ⟨1, 2⟩, ⟨0, 0⟩, ⟨0, 0⟩]) :
    Calls Try.prog 16 #[.slice (some A) 2 2, .slice (some B) 4 4] W fun e w' => ∃ a c, e = .returned (.tuple #[.slice a 2 c, .int .i64 0]) ∧ IntsAt w' a [0, 1] ∧ Below W.heap.size W w' := by
  have h := sReached_any (some A) (some B) 2 4 [⟨7, 1, 0, 1⟩, ⟨1, 2, 9, 0⟩] [⟨3, 4⟩, ⟨1, 2⟩, ⟨0, 0⟩, ⟨0, 0⟩] W h1 h2
  refine h.mono ?_
  rintro e w' ⟨a, c, rfl, ho, hB⟩
  exact ⟨a, c, rfl, (ints_of_own ho).1, hB⟩
/-- A box in new memory, and no error. -/
def GivesB (b : List Rg) (w : World) (e : Ending) (w' : World) : Prop := ∃ a c, e = .returned (.tuple #[.slice a 4 c, .int .i64 0]) ∧ RangesAt w' a b ∧ Below w.heap.size w w'
theorem givesB_of {b : List Rg} {w : World} {e : Ending} {w' : World} (h4 : b.length = 4) (h : GivesRgE b 0 w e w') : GivesB b w e w' := by
  obtain ⟨a, c, rfl, ho, hB⟩ := h
  exact ⟨a, c, by rw [h4], (ranges_of_own ho).1, hB⟩
theorem tAfter (a a2 : Option Addr) (ca c2 : Nat) (ps : List L) (b : List Rg) (w : World) (hp : LinesAt w a ps) (hr : RangesAt w a2 b) (hv : vp ps = 0) (hb : OkB b) : Calls Try.prog 11 #[.slice a ps.length ca, .slice a2 4 c2] w (GivesB (endB ps b) w) := by
  have h := sAfter_any a a2 ca c2 ps b w hp hr
  have hz : fe (vp ps) (vb b) = 0 := by rw [hv, vb_ok' hb]; rfl
  rw [hb.l4, hz, show afA ps b = endB ps b by unfold afA; rw [if_pos hz]] at h
  exact h.mono fun e w' q => givesB_of (end_ok (vp_ok hv).2 hb).l4 q
theorem tOf (a b : Option Addr) (ca cb : Nat) (lo hi : List Int) (out mn mx : Int) (w : World) (hl : IntsAt w a lo) (hh : IntsAt w b hi) (hm : lo.length ≤ 1000) (hm2 : hi.length ≤ 1000) (hz : vcon lo hi out mn mx = 0) :
    Calls Try.prog 30 #[.agg #[.slice a lo.length ca, .slice b hi.length cb, .int .i64 out, .int .i64 mn, .int .i64 mx]] w (GivesB (conB lo hi) w) := by
  have h := sOf_any a b ca cb lo hi out mn mx w hl hh hm hm2
  rw [hz, show ofA lo hi out mn mx = conB lo hi by unfold ofA; rw [if_pos hz]] at h
  exact h.mono fun e w' q => givesB_of (okB_conV hz).l4 q
theorem tPoint (a : Option Addr) (c : Nat) (s : List Int) (w : World) (h : IntsAt w a s) (hs : okS s) : Calls Try.prog 33 #[.slice a 4 c] w (GivesB (ptB s) w) := by
  have h4 := hs.1
  have hz : vs s = 0 := vs_ok' hs.1 hs.2
  have q := sPoint_any a c s w h (by omega)
  rw [hz, show pointA s = ptB s by unfold pointA; rw [if_pos hz], h4] at q
  exact q.mono fun e w' q => givesB_of (by rw [ptB_len]; exact h4) q
theorem tRun (a b : Option Addr) (ca cb : Nat) (ps : List L) (s : List Int) (w : World) (hp : LinesAt w a ps) (h : IntsAt w b s) (hv : vp ps = 0) (hs : okS s) : Calls Try.prog 34 #[.slice a ps.length ca, .slice b 4 cb] w fun e w' => ∃ a c, e = .returned (.tuple #[.slice a 4 c, .int .i64 0]) ∧ IntsAt w' a (runE ps s) ∧ Below w.heap.size w w' := by
  have h4 := hs.1
  have hz : vr ps s = 0 := by unfold vr; rw [hv, vs_ok' hs.1 hs.2]; rfl
  have q := run_any a b ca cb ps s w hp h (by omega)
  rw [hz, show runL ps s = runE ps s by unfold runL; rw [if_pos hz], h4] at q
  refine q.mono ?_
  rintro e w' ⟨a, c, rfl, ho, hB⟩
  exact ⟨a, c, by rw [(runE_ok hz).1], (ints_of_own ho).1, hB⟩
theorem tHas (a a2 : Option Addr) (ca c2 : Nat) (b : List Rg) (s : List Int) (w : World) (hb : RangesAt w a b) (hs : IntsAt w a2 s) (ob : OkB b) (os : okS s) (hm : memB b s = true) : Calls Try.prog 35 #[.slice a 4 ca, .slice a2 4 c2] w fun e w' => e = .returned (.tuple #[.bool true, .int .i64 0]) ∧ Below w.heap.size w w' := by
  have h4 := os.1
  have q := sHas_any a a2 ca c2 b s w hb hs (by omega)
  have hz : fe (vb b) (vs s) = 0 := by rw [vb_ok' ob, vs_ok' os.1 os.2]; rfl
  rw [hz, show hasA b s = true by unfold hasA; rw [if_pos hz]; exact hm, ob.l4, h4] at q
  exact q
theorem tWithin (a1 a2 : Option Addr) (c1 c2 : Nat) (a b : List Rg) (w : World) (ha : RangesAt w a1 a) (hb : RangesAt w a2 b) (oa : OkB a) (ob : OkB b) (hs : subB a b = true) : Calls Try.prog 36 #[.slice a1 4 c1, .slice a2 4 c2] w fun e w' => e = .returned (.tuple #[.bool true, .int .i64 0]) ∧ Below w.heap.size w w' := by
  have q := sWithin_any a1 a2 c1 c2 a b w ha hb
  have hz : fe (vb a) (vb b) = 0 := by rw [vb_ok' oa, vb_ok' ob]; rfl
  rw [hz, show withA a b = true by unfold withA; rw [if_pos hz]; exact hs, oa.l4, ob.l4] at q
  exact q
theorem tSize (a : Option Addr) (c : Nat) (b : List Rg) (w : World) (h : RangesAt w a b) (ob : OkB b) (hs : szB b = 0) : Calls Try.prog 37 #[.slice a 4 c] w fun e w' => e = .returned (.tuple #[.int .i64 0, .int .i64 0]) ∧ Below w.heap.size w w' := by
  have q := sSize_any a c b w h
  rw [vb_ok' ob, show sizeA b = 0 by unfold sizeA; rw [if_pos (vb_ok' ob)]; exact hs, ob.l4] at q
  exact q
theorem tHull (a1 a2 : Option Addr) (c1 c2 : Nat) (a b : List Rg) (w : World) (ha : RangesAt w a1 a) (hb : RangesAt w a2 b) (oa : OkB a) (ob : OkB b) : Calls Try.prog 39 #[.slice a1 4 c1, .slice a2 4 c2] w (GivesB (hullB a b) w) := by
  have q := sHull_any a1 a2 c1 c2 a b w ha hb
  have hz : fe (vb a) (vb b) = 0 := by rw [vb_ok' oa, vb_ok' ob]; rfl
  rw [hz, show hullA a b = hullB a b by unfold hullA; rw [if_pos hz], oa.l4, ob.l4] at q
  exact q.mono fun e w' q => givesB_of (hullB_l oa.l4 ob.l4) q
theorem tHalves (a : Option Addr) (ca : Nat) (b : List Rg) (r : Int) (w : World) (hb : RangesAt w a b) (ob : OkB b) (hr : isReg r = true) (hne : (gAt b r).lo ≠ (gAt b r).hi) : Calls Try.prog 38 #[.slice a 4 ca, .int .i64 r] w fun e w' => ∃ x y cx cy, e = .returned (.tuple #[.slice x 4 cx, .slice y 4 cy, .int .i64 0]) ∧ RangesAt w' x (loH b r) ∧ RangesAt w' y (hiH b r) ∧ Below w.heap.size w w' := by
  have q := sHalves_any a ca b r w hb
  have hz : hvC b r = 0 := by unfold hvC; rw [vb_ok' ob, hr, if_pos (show fe 0 (if (true : Bool) = true then 0 else 1) = 0 from rfl), if_neg (by omega)]
  rw [hz, show hvL b r = loH b r by unfold hvL; rw [if_pos hz], show hvH b r = hiH b r by unfold hvH; rw [if_pos hz], ob.l4] at q
  refine q.mono ?_
  rintro e w' ⟨x, y, cx, cy, rfl, h1, h2, hB⟩
  have l1 : (loH b r).length = 4 := by unfold loH; simpa using ob.l4
  have l2 : (hiH b r).length = 4 := by unfold hiH; simpa using ob.l4
  exact ⟨x, y, cx, cy, by rw [l1, l2], h1, h2, hB⟩
theorem tHalves6 (a : Option Addr) (ca : Nat) (b : List Rg) (r : Int) (w : World) (hb : RangesAt w a b) (ob : OkB b) (hr : isReg r = true) (hne : (gAt b r).lo = (gAt b r).hi) : Calls Try.prog 38 #[.slice a 4 ca, .int .i64 r] w fun e w' => ∃ x y cx cy, e = .returned (.tuple #[.slice x 0 cx, .slice y 0 cy, .int .i64 6]) ∧ Below w.heap.size w w' := by
  have q := sHalves_any a ca b r w hb
  have hz : hvC b r = 6 := by unfold hvC; rw [vb_ok' ob, hr, if_pos (show fe 0 (if (true : Bool) = true then 0 else 1) = 0 from rfl), if_pos (by omega)]
  rw [hz, show hvL b r = [] by unfold hvL; rw [hz]; rfl, show hvH b r = [] by unfold hvH; rw [hz]; rfl, ob.l4] at q
  refine q.mono ?_
  rintro e w' ⟨x, y, cx, cy, rfl, h1, h2, hB⟩
  exact ⟨x, y, cx, cy, rfl, hB⟩
theorem ints_lit2 {w : World} (t : TypeId) : IntsAt (w.alloc (.cells #[.int .i64 0, .int .i64 1] t)) (some ⟨w.heap.size, 0, none⟩) [0, 1] := by
  refine .inr ⟨w.heap.size, 0, rfl, by simp, fun j n hj => ?_⟩
  rw [Nat.zero_add]
  refine hp_cell (hp_new rfl) ?_
  match j, hj with
  | 0, h => simp at h; subst h; rfl
  | 1, h => simp at h; subst h; rfl

end Go.Proofs.Ytmpgaccpdglhkaa
