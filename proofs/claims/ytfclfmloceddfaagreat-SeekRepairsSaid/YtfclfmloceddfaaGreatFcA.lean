/- Several texts in one. -/
import Derived.Test.YtfclfmloceddfaaGreatCnF
import Derived.Test.YtfclfmloceddfaaGreatTells
import Derived.Test.YtfclfmloceddfaaGreatFxW
import Derived.Test.YtfclfmloceddfaaGreatCnL
/- Single repairs: plain mathematics; validateTests, validateNeed of seek: contracts. -/
set_option linter.unusedVariables false
set_option linter.unusedSimpArgs false
namespace Go.Proofs.YtfclfmloceddfaaGreat
open Go.RowKit Go.Shelf Tinker

theorem edit_at (w : World) (t : TypeId) (e : E) : EditsAt (w.alloc (.cells #[.int .i64 e.at_, .int .i64 e.ln.op, .int .i64 e.ln.to, .int .i64 e.ln.a, .int .i64 e.ln.b] t)) (some ⟨w.heap.size, 0, none⟩) [e] :=
  .inr ⟨w.heap.size, 0, rfl, by simp, fun j l hj => by
    match j, hj with
    | 0, hj => simp at hj; subst hj; exact ⟨hp_cell (hp_new rfl) rfl, hp_cell (hp_new rfl) rfl, hp_cell (hp_new rfl) rfl, hp_cell (hp_new rfl) rfl, hp_cell (hp_new rfl) rfl⟩
    | j + 1, hj => simp at hj⟩

theorem vpx_one {ps : List L} {i : Nat} {m : L} (hv : vp ps = 0) (hi : i < ps.length) (hm : isLn m = true) : vpx ps [⟨(i : Int), m⟩] 0 = 0 := by
  have h8 := (vp_ok hv).1
  have hx : vx [⟨(i : Int), m⟩] = 0 := vx_0 (by simp) (by rfl) (fun e he => by
    rw [List.mem_singleton] at he
    subst he
    rw [Bool.and_eq_true]
    exact ⟨btw_true.2 ⟨by show (0 : Int) ≤ (i : Int); omega, by show (i : Int) ≤ 7; omega⟩, hm⟩)
  unfold vpx
  rw [hv, hx]
  show (if allBtw [(i : Int)] 0 ((ps.length : Int) - 1) then (0 : Int) else 4) = 0
  rw [if_pos]
  unfold allBtw
  rw [List.all_eq_true]
  intro x hx
  rw [List.mem_singleton] at hx
  subst hx
  exact btw_true.2 ⟨by omega, by omega⟩
theorem gdR_one {ps : List L} {ts : List T} {i : Nat} {m : L} (hv : vp ps = 0) (ht : vts ts = 0) (hi : i < ps.length) (hm : isLn m = true) : gdR ps [⟨(i : Int), m⟩] ts = gdB ps ts [⟨(i : Int), m⟩] := by
  unfold gdR
  rw [ht, if_pos (vpx_one hv hi hm)]
theorem cnd_ln {ps : List L} {i : Nat} {n : Int} {m : L} (h : m ∈ cndL ps i n) : isLn m = true := by
  unfold cndL at h
  exact (othL_mem.1 h).2.1
/-- The lines of single repairs at a place. -/
def fxL (ps : List L) (ts : List T) (i : Nat) (n : Int) : List L := (cndL ps i n).filter fun m => gdB ps ts [⟨(i : Int), m⟩]
theorem fx_filter {ps : List L} {ts : List T} {i : Nat} {n : Int} (hv : vp ps = 0) (ht : vts ts = 0) (hi : i < ps.length) : (cndL ps i n).filter (fun m => !(!gdR ps [⟨(i : Int), m⟩] ts)) = fxL ps ts i n := by
  unfold fxL
  refine List.filter_congr fun m hm => ?_
  rw [gdR_one hv ht hi (cnd_ln hm), Bool.not_not]
theorem fx_mem {ps : List L} {ts : List T} {i : Nat} {n : Int} {m : L} (h : m ∈ fxL ps ts i n) : isLn m = true ∧ gdB ps ts [⟨(i : Int), m⟩] = true := by
  unfold fxL at h
  rw [List.mem_filter] at h
  exact ⟨cnd_ln h.1, h.2⟩
theorem fx_len9 (ps : List L) (ts : List T) (i : Nat) (n : Int) : (fxL ps ts i n).length ≤ 1000 := Nat.le_trans (List.length_filter_le _ _) (cnd_len9 ps i n)
/-- The code of a need: whether a test fails. -/
def ndC (ps : List L) (ts : List T) : Int := if (pL false ps ts).length = 0 then 8 else 0
theorem nd_all {ps : List L} {ts : List T} (hv : vp ps = 0) (ht : vts ts = 0) : ndC ps ts = if (ts.all fun t => pas ps t) = true then 8 else 0 := by
  have hz : vpt ps ts = 0 := by unfold vpt; rw [hv]; exact ht
  unfold ndC
  rw [pL_ok hz]
  congr 1
  rw [eq_iff_iff, plc_nil, List.all_eq_true]
  constructor
  · intro h t ht
    have := h (pas ps t == false) (List.mem_map.2 ⟨t, ht, rfl⟩)
    cases hp : pas ps t
    · rw [hp] at this; cases this
    · rfl
  · intro h b hb
    obtain ⟨t, ht, rfl⟩ := List.mem_map.1 hb
    rw [h t ht]
    rfl
/-- The errors of a search, and of one at a place. -/
def skC (ps : List L) (ts : List T) (n : Int) : Int := feL [feL [vp ps, vts ts], kdC n, ndC ps ts]
def fxC (ps : List L) (ts : List T) (i n : Int) : Int := feL [feL [vp ps, vts ts], plC ps i, kdC n, ndC ps ts]
theorem fe2_ok {a b : Int} (h : feL [a, b] = 0) : a = 0 ∧ b = 0 := by
  simp only [feL] at h
  by_cases h1 : a = 0
  · rw [if_pos h1] at h
    by_cases h2 : b = 0
    · exact ⟨h1, h2⟩
    · rw [if_neg h2] at h; exact absurd h h2
  · rw [if_neg h1] at h; exact absurd h h1
theorem fe_split {a : Int} {r : List Int} (h : feL (a :: r) = 0) : a = 0 ∧ feL r = 0 := by
  unfold feL at h
  by_cases h1 : a = 0
  · rw [if_pos h1] at h; exact ⟨h1, h⟩
  · rw [if_neg h1] at h; exact absurd h h1
theorem kd_ok {n : Int} (h : kdC n = 0) : 0 ≤ n ∧ n ≤ 2 := by
  unfold kdC at h
  split at h
  · assumption
  · cases h
theorem plc_ok {ps : List L} {i : Int} (h : plC ps i = 0) : 0 ≤ i ∧ i < (ps.length : Int) := by
  unfold plC at h
  split at h
  · rename_i hb
    have := btw_true.1 hb
    omega
  · cases h
theorem nd_ok {ps : List L} {ts : List T} (h : ndC ps ts = 0) : ¬ (pL false ps ts).length = 0 := by
  unfold ndC at h
  split at h
  · cases h
  · assumption
theorem skC_ok {ps : List L} {ts : List T} {n : Int} (h : skC ps ts n = 0) : vp ps = 0 ∧ vts ts = 0 ∧ (0 ≤ n ∧ n ≤ 2) ∧ ndC ps ts = 0 := by
  obtain ⟨h1, h2⟩ := fe_split h
  obtain ⟨h3, h4⟩ := fe_split h2
  obtain ⟨h5, _⟩ := fe_split h4
  obtain ⟨h6, h7⟩ := fe2_ok h1
  exact ⟨h6, h7, kd_ok h3, h5⟩
theorem fxC_ok {ps : List L} {ts : List T} {i n : Int} (h : fxC ps ts i n = 0) : vp ps = 0 ∧ vts ts = 0 ∧ (0 ≤ i ∧ i < (ps.length : Int)) ∧ (0 ≤ n ∧ n ≤ 2) ∧ ndC ps ts = 0 := by
  obtain ⟨h1, h2⟩ := fe_split h
  obtain ⟨h3, h4⟩ := fe_split h2
  obtain ⟨h5, h6⟩ := fe_split h4
  obtain ⟨h7, _⟩ := fe_split h6
  obtain ⟨h8, h9⟩ := fe2_ok h1
  exact ⟨h8, h9, plc_ok h3, kd_ok h5, h7⟩
def fxR (ps : List L) (ts : List T) (i n : Int) : List L := if fxC ps ts i n = 0 then fxL ps ts i.toNat n else []


set_option maxHeartbeats 1000000 in
theorem sValidateTests_any (a h : Option Addr) (ca ch : Nat) (ps : List L) (ts : List T) (w : World) (hp : LinesAt w a ps) (hts : TestsAt w h ts) (hm : ps.length ≤ 1000) (hm2 : ts.length ≤ 1000) (hml : ∀ t ∈ ts, t.inn.length ≤ 1000) :
    Calls Tryz.prog 17 #[.slice a ps.length ca, .slice h ts.length ch] w fun e w' => e = .returned (.int .i64 (feL [vp ps, vts ts])) ∧ Below w.heap.size w w' := by
  have H1 := Lib.hid (fun w h => validate_any a ca ps w h)
  have H2 := Lib.hid (fun w h2 => validateTests_C h ch ts w h2 hm2 hml)
  have HP := Lib.hid hp
  have HT := Lib.hid hts
  generalize vp ps = d1 at *
  generalize vts ts = d2 at *
  clear hp hts hml
  go_enter Tryz.func17, Tryz.ntmps17
  go_wp2_with fail
  refine (H1.out _ HP.out).mono ?_
  rintro e w1 ⟨rfl, hB⟩
  have HB1 := Lib.hid hB
  clear hB
  go_wp2_with fail
  refine (H2.out _ (HT.out.below HB1.out (Nat.le_refl _))).mono ?_
  rintro e w2 ⟨rfl, hB⟩
  have HB2 := Lib.hid (HB1.out.trans (hB.mono HB1.out.size))
  clear hB
  go_wp2_with fail
  refine (firstError_any _ 2 [d1, d2] _ (ints_lit' (zs := [d1, d2]) rfl) (by simp)).mono ?_
  rintro e w3 ⟨rfl, rfl⟩
  have HB3 := Lib.hid (HB2.out.alloc HB2.out.size (.cells (iv [d1, d2]) 28))
  generalize w2.alloc (.cells (iv [d1, d2]) 28) = W3 at *

  go_wp2_with fail
  go_ret
  exact ⟨rfl, HB3.out⟩

set_option maxHeartbeats 1000000 in
theorem sValidateNeed_any (a h : Option Addr) (ca ch : Nat) (ps : List L) (ts : List T) (w : World) (hp : LinesAt w a ps) (hts : TestsAt w h ts) (hm : ps.length ≤ 1000) (hm2 : ts.length ≤ 1000) (hml : ∀ t ∈ ts, t.inn.length ≤ 1000) :
    Calls Tryz.prog 18 #[.slice a ps.length ca, .slice h ts.length ch] w fun e w' => e = .returned (.int .i64 (ndC ps ts)) ∧ Below w.heap.size w w' := by
  have H1 := Lib.hid (fun w h1 h2 => failing_any a h ca ch ps ts w h1 h2 hm2 hml)
  have HP := Lib.hid hp
  have HT := Lib.hid hts
  unfold ndC
  generalize pL false ps ts = R at *
  generalize vpt ps ts = q at *
  clear hp hts hml
  by_cases hR : R.length = 0
  · have hR1 : decide ((R.length : Int) = 0) = true := by simp [hR]
    have hR2 : ((R.length : Int) == 0) = true := by simp [hR]
    have HR := Lib.hid hR
    rw [if_pos HR.out]
    clear hR
    go_enter Tryz.func18, Tryz.ntmps18
    go_wp2_with fail
    refine (H1.out _ HP.out HT.out).mono ?_
    rintro e w1 ⟨a4, k4, rfl, h4, hB⟩
    have HB1 := Lib.hid hB
    clear hB h4
    go_wp2_with fail
    go_ret
    exact ⟨rfl, HB1.out⟩
  · have hR1 : decide ((R.length : Int) = 0) = false := decide_eq_false (by omega)
    have hR2 : ((R.length : Int) == 0) = false := beq_eq_false_iff_ne.2 (by omega)
    have HR := Lib.hid hR
    rw [if_neg HR.out]
    clear hR
    go_enter Tryz.func18, Tryz.ntmps18
    go_wp2_with fail
    refine (H1.out _ HP.out HT.out).mono ?_
    rintro e w1 ⟨a4, k4, rfl, h4, hB⟩
    have HB1 := Lib.hid hB
    clear hB h4
    go_wp2_with fail
    go_ret
    exact ⟨rfl, HB1.out⟩


end Go.Proofs.YtfclfmloceddfaaGreat

/- slices.DeleteFunc on lines, at the closure of seek.fixes (written by tools/gen/dlf.py out of XDlL and XOtN). -/
set_option linter.unusedVariables false
set_option linter.unusedSimpArgs false
namespace Go.Proofs.YtfclfmloceddfaaGreat
open Go.RowKit Tinker

end Go.Proofs.YtfclfmloceddfaaGreat

/- fixes, Fixes of seek: contracts. -/
set_option linter.unusedVariables false
set_option linter.unusedSimpArgs false
namespace Go.Proofs.YtfclfmloceddfaaGreat
open Go.RowKit Go.Shelf Tinker

end Go.Proofs.YtfclfmloceddfaaGreat

/- validateSearch, Count, Places of seek: contracts. -/
set_option linter.unusedVariables false
set_option linter.unusedSimpArgs false
namespace Go.Proofs.YtfclfmloceddfaaGreat
open Go.RowKit Go.Shelf Tinker

/-- How many single repairs there are at the first places; whether there are any at a place. -/
def cnT (ps : List L) (ts : List T) (n : Int) : Nat → Nat
  | 0 => 0
  | k + 1 => cnT ps ts n k + (fxL ps ts k n).length
def hsL (ps : List L) (ts : List T) (n : Int) : List Bool := (List.range ps.length).map fun i => decide (0 < (fxL ps ts i n).length)
theorem hsL_len (ps : List L) (ts : List T) (n : Int) : (hsL ps ts n).length = ps.length := by unfold hsL; rw [List.length_map, List.length_range]
theorem hsL_get {ps : List L} {ts : List T} {n : Int} {k : Nat} (h : k < ps.length) : (hsL ps ts n)[k]? = some (decide (0 < (fxL ps ts k n).length)) := by
  unfold hsL
  rw [List.getElem?_map, List.getElem?_range h]
  rfl
theorem cnT_le (ps : List L) (ts : List T) (n : Int) : ∀ k, cnT ps ts n k ≤ 1000 * k
  | 0 => Nat.le_refl _
  | k + 1 => by
    have := cnT_le ps ts n k
    have := fx_len9 ps ts k n
    show cnT ps ts n k + (fxL ps ts k n).length ≤ _
    omega
theorem cnT_plc (ps : List L) (ts : List T) (n : Int) : ∀ k, k ≤ ps.length → (plcTo (hsL ps ts n) k).length ≤ cnT ps ts n k ∧ (0 < cnT ps ts n k ↔ 0 < (plcTo (hsL ps ts n) k).length)
  | 0, _ => by
    rw [plcTo_zero]
    exact ⟨Nat.le_refl _, Iff.rfl⟩
  | k + 1, hk => by
    obtain ⟨h1, h2⟩ := cnT_plc ps ts n k (by omega)
    have hg := hsL_get (ts := ts) (n := n) (show k < ps.length by omega)
    show _ ≤ cnT ps ts n k + (fxL ps ts k n).length ∧ (0 < cnT ps ts n k + (fxL ps ts k n).length ↔ _)
    by_cases hd : 0 < (fxL ps ts k n).length
    · rw [decide_eq_true hd] at hg
      rw [plcTo_yes hg, List.length_append, List.length_singleton]
      omega
    · rw [decide_eq_false hd] at hg
      rw [plcTo_no hg]
      omega
def cnR (ps : List L) (ts : List T) (n : Int) : Int := if skC ps ts n = 0 then (cnT ps ts n ps.length : Nat) else 0
def fpR (ps : List L) (ts : List T) (n : Int) : List Int := if skC ps ts n = 0 then plc (hsL ps ts n) else []
theorem fp_plc (ps : List L) (ts : List T) (n : Int) : plc (hsL ps ts n) = plcTo (hsL ps ts n) ps.length := by unfold plc; rw [hsL_len]
theorem set_to {α : Type} {l : List α} {z v : α} {k m : Nat} (h : l[k]? = some v) (hm : l.length = m) : (l.take k ++ List.replicate (m - k) z).set k v = l.take (k + 1) ++ List.replicate (m - (k + 1)) z := by
  have hk : k < l.length := (List.getElem?_eq_some_iff.1 h).1
  rw [show m - k = (m - (k + 1)) + 1 by omega, List.replicate_succ, List.set_append_right _ _ (by rw [List.length_take]; omega), List.length_take, show k - min k l.length = 0 by omega, List.set_cons_zero, take_snoc h, List.append_assoc]
  rfl
theorem bools_at {W : World} {g : Nat} {bs : List Bool} {t : TypeId} (h : W.heap[g]? = some (.cells (bv bs) t (0, 0))) : BoolsAt W g 0 bs := fun j n hj => by
  rw [Nat.zero_add]
  have hj' := (List.getElem?_eq_some_iff.1 hj).1
  have := hp_cell h (bv_get bs j hj')
  rw [getD_of_get hj] at this
  exact this

end Go.Proofs.YtfclfmloceddfaaGreat
