/- Several texts in one. -/
import Derived.Test.YtdcoebeffbkpnaaGreatMpD
import Derived.Test.YtdcoebeffbkpnaaGreatEdO
import Derived.Test.YtdcoebeffbkpnaaGreatRd4
import Derived.Test.YtdcoebeffbkpnaaGreatPtZ
import Derived.BigQuiet
/- Then of patches, plain mathematics and the code's contract. -/
set_option linter.unusedVariables false
set_option linter.unusedSimpArgs false
namespace Go.Proofs.YtdcoebeffbkpnaaGreat
open Go.RowKit Go.Maps Tinker

theorem atX_append (xs ys : List E) (i : Int) : atX (xs ++ ys) i = (atX xs i).or (atX ys i) := by
  induction xs with
  | nil => rfl
  | cons e xs ih =>
    rw [List.cons_append, atX_cons, atX_cons, ih]
    split <;> rfl
theorem atX_rev {xs : List E} (hd : dist xs) (i : Int) : atX xs.reverse i = atX xs i := by
  cases h : atX xs i with
  | none =>
    cases h2 : atX xs.reverse i with
    | none => rfl
    | some l =>
      obtain ⟨e, he, h3, h4⟩ := atX_some h2
      have := atX_mem hd (List.mem_reverse.1 he)
      rw [h3, h] at this
      cases this
  | some l =>
    obtain ⟨e, he, h3, h4⟩ := atX_some h
    cases h2 : atX xs.reverse i with
    | none =>
      exfalso
      have : (xs.reverse.find? fun e => e.at_ == i) = none := by unfold atX at h2; simpa using h2
      have := List.find?_eq_none.1 this e (List.mem_reverse.2 he)
      simp [h3] at this
    | some l2 =>
      obtain ⟨e2, he2, h5, h6⟩ := atX_some h2
      rw [← h4, ← h6, at_inj hd he (List.mem_reverse.1 he2) (by rw [h3, h5])]
/-- What two patches write at a place, one after the other. -/
def thF (xs ys : List E) (i : Int) : Option L := (atX ys i).or (atX xs i)
theorem lastX_thF {xs ys : List E} (hx : dist xs) (hy : dist ys) : lastX (xs ++ ys) = thF xs ys := by
  funext i
  unfold lastX thF
  rw [List.reverse_append, atX_append, atX_rev hx, atX_rev hy]
theorem mpTo_step (f : Int → Option L) (k : Nat) : (mpTo f (k + 1)).length = (mpTo f k).length + c1 (f k).isSome := by
  cases h : f (k : Int) with
  | none => rw [mpTo_no h]; rfl
  | some l => rw [mpTo_yes h, List.length_append]; rfl
theorem mpL_len (f : Int → Option L) : (mpL f).length = cnt8 f := by
  unfold mpL cnt8
  rw [mpTo_step, mpTo_step, mpTo_step, mpTo_step, mpTo_step, mpTo_step, mpTo_step, mpTo_step]
  show [].length + _ + _ + _ + _ + _ + _ + _ + _ = _
  simp
/-- What Then answers. -/
def tnE (xs ys : List E) : Int := if fe (vx xs) (vx ys) = 0 then (if 4 < (mpL (thF xs ys)).length then 3 else 0) else fe (vx xs) (vx ys)
def tnR (xs ys : List E) : List E := if tnE xs ys = 0 then mpL (thF xs ys) else []
theorem tn_1 {xs ys : List E} (h : fe (vx xs) (vx ys) ≠ 0) : tnE xs ys = fe (vx xs) (vx ys) ∧ tnR xs ys = [] := by
  have : tnE xs ys = fe (vx xs) (vx ys) := by unfold tnE; rw [if_neg h]
  exact ⟨this, by unfold tnR; rw [this, if_neg h]⟩
theorem tn_2 {xs ys : List E} (h : fe (vx xs) (vx ys) = 0) (h4 : 4 < (mpL (thF xs ys)).length) : tnE xs ys = 3 ∧ tnR xs ys = [] := by
  have : tnE xs ys = 3 := by unfold tnE; rw [if_pos h, if_pos h4]
  exact ⟨this, by unfold tnR; rw [this, if_neg (by decide)]⟩
theorem tn_0 {xs ys : List E} (h : fe (vx xs) (vx ys) = 0) (h4 : ¬ 4 < (mpL (thF xs ys)).length) : tnE xs ys = 0 ∧ tnR xs ys = mpL (thF xs ys) := by
  have : tnE xs ys = 0 := by unfold tnE; rw [if_pos h, if_neg h4]
  exact ⟨this, by unfold tnR; rw [this, if_pos rfl]⟩
theorem tn_code {xs ys : List E} (h : fe (vx xs) (vx ys) = 0) : tnC xs ys = tnE xs ys ∧ tnL xs ys = tnR xs ys := by
  obtain ⟨z1, z2⟩ := fe_0 h
  have e := lastX_thF (dist_of (vx_ok z1).2.1) (dist_of (vx_ok z2).2.1)
  unfold tnC tnL
  rw [e, ← mpL_len]
  by_cases h4 : 4 < (mpL (thF xs ys)).length
  · rw [if_pos h4, if_pos h4, (tn_2 h h4).1, (tn_2 h h4).2]; exact ⟨rfl, rfl⟩
  · rw [if_neg h4, if_neg h4, (tn_0 h h4).1, (tn_0 h h4).2]; exact ⟨rfl, rfl⟩
theorem tn_ok {xs ys : List E} (h : tnE xs ys = 0) : vx xs = 0 ∧ vx ys = 0 ∧ (mpL (thF xs ys)).length ≤ 4 ∧ tnR xs ys = mpL (thF xs ys) := by
  by_cases hz : fe (vx xs) (vx ys) = 0
  · obtain ⟨z1, z2⟩ := fe_0 hz
    by_cases h4 : 4 < (mpL (thF xs ys)).length
    · rw [(tn_2 hz h4).1] at h; cases h
    · exact ⟨z1, z2, by omega, (tn_0 hz h4).2⟩
  · rw [(tn_1 hz).1] at h; exact absurd h hz
/-- A place in the patch of what two write: what the second writes there, else what the first. -/
theorem atX_mpL {f : Int → Option L} {i : Int} (h0 : 0 ≤ i) (h7 : i ≤ 7) : atX (mpL f) i = f i := by
  cases h : f i with
  | none =>
    refine atX_none fun e he h1 => ?_
    have := (mpL_mem.1 he).2
    rw [h1, h] at this
    cases this
  | some l => exact atX_mem (e := ⟨i, l⟩) (mpL_dist f) (mpL_mem.2 ⟨⟨h0, h7⟩, h⟩)
theorem do_then {ps : List L} {xs ys : List E} (hx : dist xs) (hy : dist ys) (h0 : ∀ e ∈ xs, 0 ≤ e.at_) (h1 : ∀ e ∈ ys, 0 ≤ e.at_) (h8 : ps.length ≤ 8) : doL (doL ps xs) ys = doL ps (mpL (thF xs ys)) := by
  refine lines_ext (by rw [doL_len, doL_len, doL_len]) fun i hi => ?_
  rw [doL_len, doL_len] at hi
  rw [doL_get ys _ i hy h1 (by rw [doL_len]; exact hi), doL_get _ ps i (mpL_dist _) (fun e he => (mpL_mem.1 he).1.1) hi, atX_mpL (by omega) (by omega)]
  have hd : (doL ps xs).getD i ⟨0, 0, 0, 0⟩ = (atX xs i).getD (ps.getD i ⟨0, 0, 0, 0⟩) := getD_of_get (doL_get xs ps i hx h0 hi)
  rw [hd]
  unfold thF
  cases atX ys (i : Int) <;> rfl
theorem then_ok {ps : List L} {xs ys : List E} (h : tnE xs ys = 0) (h1 : vpx ps xs 0 = 0) (h2 : vpx (doP ps xs) ys 0 = 0) : vpx ps (tnR xs ys) 0 = 0 ∧ doP ps (tnR xs ys) = doP (doP ps xs) ys := by
  obtain ⟨z1, z2, h4, e⟩ := tn_ok h
  obtain ⟨a1, a2, _, a4⟩ := vpx_ok h1
  obtain ⟨b1, b2, _, b4⟩ := vpx_ok h2
  have ed : doP ps xs = doL ps xs := by unfold doP; rw [if_pos h1]
  rw [ed] at h2 b4
  rw [doL_len] at b4
  have hp8 := (vp_ok a1).1
  obtain ⟨_, k2, k3⟩ := vx_ok z1
  obtain ⟨_, l2, l3⟩ := vx_ok z2
  have hm : ∀ e ∈ mpL (thF xs ys), (∃ e' ∈ xs, e'.at_ = e.at_ ∧ e'.ln = e.ln) ∨ (∃ e' ∈ ys, e'.at_ = e.at_ ∧ e'.ln = e.ln) := by
    intro e he
    have hf := (mpL_mem.1 he).2
    unfold thF at hf
    cases hy : atX ys e.at_ with
    | some l => rw [hy] at hf; injection hf with hf; obtain ⟨e', q1, q2, q3⟩ := atX_some hy; exact .inr ⟨e', q1, q2, by rw [q3, hf]⟩
    | none => rw [hy] at hf; obtain ⟨e', q1, q2, q3⟩ := atX_some (show atX xs e.at_ = some e.ln from hf); exact .inl ⟨e', q1, q2, q3⟩
  have hv : vpx ps (mpL (thF xs ys)) 0 = 0 := by
    have hx : vx (mpL (thF xs ys)) = 0 := by
      refine vx_0 h4 (set_of (mpL_dist _)) fun e he => ?_
      rw [Bool.and_eq_true]
      rcases hm e he with ⟨e', q1, q2, q3⟩ | ⟨e', q1, q2, q3⟩
      · rw [← q2, ← q3]; exact ⟨btw_true.2 (k3 e' q1).1, (k3 e' q1).2⟩
      · rw [← q2, ← q3]; exact ⟨btw_true.2 (l3 e' q1).1, (l3 e' q1).2⟩
    unfold vpx
    rw [a1, hx, if_pos (by rfl), if_pos]
    refine allBtw_of fun n hn => ?_
    obtain ⟨e, he, rfl⟩ := List.mem_map.1 hn
    rcases hm e he with ⟨e', q1, q2, q3⟩ | ⟨e', q1, q2, q3⟩
    · have := (k3 e' q1).1; have := a4 e' q1; rw [← q2]; omega
    · have := (l3 e' q1).1; have := b4 e' q1; rw [← q2]; omega
  rw [e]
  refine ⟨hv, ?_⟩
  have e2 : doP (doL ps xs) ys = doL (doL ps xs) ys := by unfold doP; rw [if_pos h2]
  rw [ed, e2, do_then (dist_of k2) (dist_of l2) (fun e he => (k3 e he).1.1) (fun e he => (l3 e he).1.1) hp8]
  unfold doP
  rw [if_pos hv]

set_option maxRecDepth 100000 in
set_option maxHeartbeats 2000000 in
theorem pThen_any (a g : Option Addr) (ca cg : Nat) (xs ys : List E) (w : World) (hx : EditsAt w a xs) (hy : EditsAt w g ys) (hm : xs.length ≤ 1000) (hn : ys.length ≤ 1000) :
    Calls Tryz.prog 36 #[.slice a xs.length ca, .slice g ys.length cg] w (GivesEditsE (tnR xs ys) (tnE xs ys) w) := by
  have H1 := Lib.hid (fun w hx => pValidate_any a ca xs w hx hm)
  have H2 := Lib.hid (fun w hy => pValidate_any g cg ys w hy hn)
  have HF := Lib.hid (fun (W : World) => firstError_at W.heap.size (W.alloc (.cells #[.int .i64 (vx xs), .int .i64 (vx ys)] 28)) (vx xs) (vx ys) (ints_two _ _ _ _))
  by_cases hz : fe (vx xs) (vx ys) = 0
  · obtain ⟨z1, z2⟩ := fe_0 hz
    have HT := Lib.hid (fun w h h' => pthen_any a g ca cg xs ys w h h' (smallX_of z1) (smallX_of z2))
    rw [(tn_code hz).1, (tn_code hz).2] at HT
    rw [hz] at HF
    clear hz z1 z2
    generalize tnE xs ys = c at HT ⊢
    generalize tnR xs ys = r at HT ⊢
    generalize vx xs = c1 at H1 HF
    generalize vx ys = c2 at H2 HF
    go_enter Tryz.func36, Tryz.ntmps36
    go_wp2_with fail
    refine (H1.out _ hx).mono ?_
    rintro e w1 ⟨rfl, hB⟩
    have HB := Lib.hid hB
    clear hB
    go_wp2_with fail
    refine (H2.out _ (hy.below HB.out (Nat.le_refl _))).mono ?_
    rintro e w2 ⟨rfl, hB⟩
    have HB2 := Lib.hid (HB.out.trans (hB.mono HB.out.size))
    clear hB
    go_wp2_with fail
    refine (HF.out _).mono ?_
    rintro e w3 ⟨rfl, hw3⟩
    have hB3 := HB2.out.alloc HB2.out.size (.cells #[.int .i64 c1, .int .i64 c2] 28)
    rw [hw3] at hB3
    have HB3 := Lib.hid hB3
    clear hB3 hw3
    go_wp2_with fail
    refine (HT.out _ (hx.below HB3.out (Nat.le_refl _)) (hy.below HB3.out (Nat.le_refl _))).mono ?_
    rintro ex w5 ⟨v1, v2, rfl, ho, hB5⟩
    have HO := Lib.hid (own_mono ho HB3.out.size)
    have HB5 := Lib.hid (HB3.out.trans (hB5.mono HB3.out.size))
    clear ho hB5
    go_wp2_with fail
    go_ret2
    exact ⟨v1, v2, rfl, HO.out, HB5.out⟩
  · obtain ⟨e1, e2⟩ := tn_1 hz
    rw [e1, e2]
    have hz1 : (fe (vx xs) (vx ys) != 0) = true := by simpa using hz
    clear hz e1 e2
    generalize fe (vx xs) (vx ys) = c at HF hz1 ⊢
    generalize vx xs = c1 at H1 HF
    generalize vx ys = c2 at H2 HF
    go_enter Tryz.func36, Tryz.ntmps36
    go_wp2_with fail
    refine (H1.out _ hx).mono ?_
    rintro e w1 ⟨rfl, hB⟩
    have HB := Lib.hid hB
    clear hB
    go_wp2_with fail
    refine (H2.out _ (hy.below HB.out (Nat.le_refl _))).mono ?_
    rintro e w2 ⟨rfl, hB⟩
    have HB2 := Lib.hid (HB.out.trans (hB.mono HB.out.size))
    clear hB
    go_wp2_with fail
    refine (HF.out _).mono ?_
    rintro e w3 ⟨rfl, hw3⟩
    have hB3 := HB2.out.alloc HB2.out.size (.cells #[.int .i64 c1, .int .i64 c2] 28)
    rw [hw3] at hB3
    have HB3 := Lib.hid hB3
    clear hB3 hw3
    go_wp2_with fail
    go_ret2
    exact givesEditsE_nil HB3.out

end Go.Proofs.YtdcoebeffbkpnaaGreat

/- Then of the document's side (patches): contracts. -/
set_option linter.unusedVariables false
set_option linter.unusedSimpArgs false
namespace Go.Proofs.YtdcoebeffbkpnaaGreat
open Go.RowKit Go.Maps Tinker

theorem results_cell_row_tmp4 {fn : Func} {p u : Tmp} {ty : TypeId} (h : fn.results = #[.cell p ty, .tmp u]) {P : Program} (tmps : Array Value) (w : World) (g : Nat) (t : TypeId) (cs : Array Value) (fr : Nat × Nat) {fs : Array Field}
    (hp : tmps.getD p undef = .pointer (some ⟨g, 0, none⟩)) (hg : w.heap[g]? = some (.cells cs t fr))
    (hu : P.underlying ty = some (.struct fs)) (hi : (P.info? ty).map (·.size) = some cs.size) {v : Value} (hv : tmps.getD u undef = v) :
    (results fn tmps).run P w = .ok (.tuple #[.agg cs, v]) w := by
  subst hv
  have hp' : tmps[p]?.getD undef = .pointer (some ⟨g, 0, none⟩) := by simpa using hp
  simp [results, h, hp', asAddr, run_loadVar_row w g t ty cs fr _ hg hu rfl hi]

theorem size_ln4 : (Tryz.prog.info? 63).map (·.size) = some 4 := by kernel_rfl
theorem atX_first {xs : List E} {k : Nat} {e : E} {i : Int} (h : (xs.take k).all (fun z => z.at_ != i) = true) (he : xs[k]? = some e) (hi : e.at_ = i) : atX xs i = some e.ln := by
  have hk : k < xs.length := by
    rcases Nat.lt_or_ge k xs.length with h | h
    · exact h
    · rw [List.getElem?_eq_none h] at he; cases he
  have hs : xs = xs.take k ++ e :: xs.drop (k + 1) := by
    have h1 := (List.take_append_drop k xs).symm
    rw [List.drop_eq_getElem_cons hk] at h1
    rw [List.getElem?_eq_getElem hk] at he
    injection he with he
    rw [he] at h1
    exact h1
  rw [hs, atX_append, atX_none (xs := xs.take k) (fun z hz => by have := List.all_eq_true.1 h z hz; simpa using this), atX_cons, if_pos hi]
  rfl
theorem atX_no {xs : List E} {i : Int} (h : xs.all (fun z => z.at_ != i) = true) : atX xs i = none :=
  atX_none fun z hz => by have := List.all_eq_true.1 h z hz; simpa using this

end Go.Proofs.YtdcoebeffbkpnaaGreat

/- Then of the document's side: the walk. -/
set_option linter.unusedVariables false
set_option linter.unusedSimpArgs false
namespace Go.Proofs.YtdcoebeffbkpnaaGreat
open Go.RowKit Go.Maps Tinker

theorem thF_some {xs ys : List E} {i : Int} {l : L} (h : atX ys i = some l) : thF xs ys i = some l := by unfold thF; rw [h]; rfl
theorem thF_none {xs ys : List E} {i : Int} (h : atX ys i = none) : thF xs ys i = atX xs i := by unfold thF; rw [h]; rfl

end Go.Proofs.YtdcoebeffbkpnaaGreat

/- Merge of patches: that it is the same in either order; the document's side. -/
set_option linter.unusedVariables false
set_option linter.unusedSimpArgs false
namespace Go.Proofs.YtdcoebeffbkpnaaGreat
open Go.RowKit Go.Maps Tinker

theorem below_drewN4 {B : Nat} {a w : World} (h : Below B a w) (n : Nat) : Below B a (w.drewN n) := h.trans ⟨rfl, rfl, rfl, Nat.le_refl _, fun _ _ => rfl⟩
theorem cfB_iff {f : Int → Option L} {e : E} : cfB f e = true ↔ ∃ l, f e.at_ = some l ∧ l ≠ e.ln := by
  unfold cfB
  cases h : f e.at_ with
  | none => simp
  | some l =>
    constructor
    · intro h1
      refine ⟨l, rfl, fun h2 => ?_⟩
      have h1' : (!eqL l e.ln) = true := h1
      rw [h2, eqL_self] at h1'
      cases h1'
    · rintro ⟨m, h1, h2⟩
      injection h1 with h1
      subst h1
      cases hq : eqL l e.ln
      · show (!eqL l e.ln) = true; rw [hq]; rfl
      · exact absurd (eqL_iff.1 hq) h2
theorem cf_one {xs ys : List E} (hy : dist ys) (h : ys.any (cfB (atX xs)) = true) : xs.any (cfB (atX ys)) = true := by
  obtain ⟨e, he, h1⟩ := List.any_eq_true.1 h
  obtain ⟨l, h2, h3⟩ := cfB_iff.1 h1
  obtain ⟨z, hz, h4, h5⟩ := atX_some h2
  refine List.any_eq_true.2 ⟨z, hz, cfB_iff.2 ⟨e.ln, ?_, ?_⟩⟩
  · rw [h4]; exact atX_mem hy he
  · rw [h5]; exact fun h6 => h3 h6.symm
theorem cf_comm {xs ys : List E} (hx : dist xs) (hy : dist ys) : ys.any (cfB (atX xs)) = xs.any (cfB (atX ys)) := by
  rw [Bool.eq_iff_iff]
  exact ⟨cf_one hy, cf_one hx⟩
theorem cf_last {xs : List E} (hx : dist xs) : lastX xs = atX xs := by
  funext i
  unfold lastX
  exact atX_rev hx i
theorem mg_1 {xs ys : List E} (h : fe (vx xs) (vx ys) ≠ 0) : mgC xs ys = fe (vx xs) (vx ys) ∧ mgR xs ys = [] := by
  have : mgC xs ys = fe (vx xs) (vx ys) := by unfold mgC; rw [if_neg h]
  exact ⟨this, by unfold mgR; rw [this, if_neg h]⟩
theorem mg_any {xs ys : List E} (h : fe (vx xs) (vx ys) = 0) : ys.any (cfB (lastX xs)) = xs.any (cfB (atX ys)) := by
  obtain ⟨z1, z2⟩ := fe_0 h
  have hx := dist_of (vx_ok z1).2.1
  rw [cf_last hx, cf_comm hx (dist_of (vx_ok z2).2.1)]
theorem mg_2 {xs ys : List E} (h : fe (vx xs) (vx ys) = 0) (h5 : xs.any (cfB (atX ys)) = true) : mgC xs ys = 5 ∧ mgR xs ys = [] := by
  have : mgC xs ys = 5 := by unfold mgC; rw [if_pos h, mg_any h, h5]; rfl
  exact ⟨this, by unfold mgR; rw [this, if_neg (by decide)]⟩
theorem mg_0 {xs ys : List E} (h : fe (vx xs) (vx ys) = 0) (h5 : xs.any (cfB (atX ys)) = false) : mgC xs ys = tnE xs ys ∧ mgR xs ys = tnR xs ys := by
  have : mgC xs ys = tnE xs ys := by unfold mgC; rw [if_pos h, mg_any h, h5, ← (tn_code h).1]; rfl
  refine ⟨this, ?_⟩
  unfold mgR
  rw [this, (tn_code h).2]
  by_cases h0 : tnE xs ys = 0
  · rw [if_pos h0]
  · rw [if_neg h0]; unfold tnR; rw [if_neg h0]
/-- What stands when two patches agree where they meet. -/
theorem mg_ok {xs ys : List E} (h : mgC xs ys = 0) : (mgC ys xs = 0 ∧ mgR ys xs = mgR xs ys) ∧ (tnE xs ys = 0 ∧ tnR xs ys = mgR xs ys) ∧ (tnE ys xs = 0 ∧ tnR ys xs = mgR xs ys) := by
  by_cases hz : fe (vx xs) (vx ys) = 0
  · obtain ⟨z1, z2⟩ := fe_0 hz
    have hx := dist_of (vx_ok z1).2.1
    have hy := dist_of (vx_ok z2).2.1
    have hz' : fe (vx ys) (vx xs) = 0 := by rw [z1, z2]; rfl
    cases h5 : xs.any (cfB (atX ys))
    · obtain ⟨e1, e2⟩ := mg_0 hz h5
      have h5' : ys.any (cfB (atX xs)) = false := by rw [cf_comm hx hy]; exact h5
      obtain ⟨e3, e4⟩ := mg_0 hz' h5'
      have hf : thF ys xs = thF xs ys := by
        funext i
        unfold thF
        cases h1 : atX xs i with
        | none => cases atX ys i <;> rfl
        | some m =>
          cases h2 : atX ys i with
          | none => rfl
          | some l =>
            obtain ⟨z, hzm, h3, h4⟩ := atX_some h1
            have hn := List.any_eq_false.1 h5 z hzm
            rw [cfB_iff] at hn
            have : l = m := by
              by_cases hlm : l = m
              · exact hlm
              · exact absurd ⟨l, by rw [h3]; exact h2, by rw [h4]; exact hlm⟩ hn
            rw [this]
      have t1 : tnE xs ys = 0 := by rw [← e1]; exact h
      have t2 : tnE ys xs = tnE xs ys := by unfold tnE; rw [hf, if_pos hz, if_pos hz']
      have t3 : tnR ys xs = tnR xs ys := by unfold tnR; rw [t2, hf]
      exact ⟨⟨by rw [e3, t2, t1], by rw [e4, e2, t3]⟩, ⟨t1, e2.symm⟩, ⟨by rw [t2, t1], by rw [t3, e2]⟩⟩
    · rw [(mg_2 hz h5).1] at h; cases h
  · rw [(mg_1 hz).1] at h; exact absurd h hz
theorem mgR_len (xs ys : List E) : (mgR xs ys).length ≤ 8 := by
  unfold mgR
  split
  · unfold tnL
    split
    · simp
    · exact mpTo_len _ 8
  · simp

end Go.Proofs.YtdcoebeffbkpnaaGreat
