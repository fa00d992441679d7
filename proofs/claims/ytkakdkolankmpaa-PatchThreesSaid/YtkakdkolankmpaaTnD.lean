/- Several texts in one. -/
import Derived.Test.YtkakdkolankmpaaMpD
import Derived.Test.YtkakdkolankmpaaEdO
import Derived.Test.YtkakdkolankmpaaRd4
import Derived.Test.YtkakdkolankmpaaPtZ
/- Then of patches, plain mathematics and the code's contract. -/
set_option linter.unusedVariables false
set_option linter.unusedSimpArgs false
namespace Go.Proofs.Ytkakdkolankmpaa
open Go.RowKit Go.Maps Tinker

theorem atX_append (xs ys : List E) (i : Int) : atX (xs ++ ys) i = (atX xs i).or (atX ys i) := by
  induction xs with
  | nil => rfl
  | cons e xs ih =>
    rw [List.cons_append, atX_cons, atX_cons, ih]
    split <;> rfl
theorem atX_rev {xs : List E} (hd : dist xs) (i : Int) : atX xs.reverse i = atX xs i := by
  cases h : atX xs i with
  | none =>
    cases h2 : atX xs.reverse i with
    | none => rfl
    | some l =>
      obtain ⟨e, he, h3, h4⟩ := atX_some h2
      have := atX_mem hd (List.mem_reverse.1 he)
      rw [h3, h] at this
      cases this
  | some l =>
    obtain ⟨e, he, h3, h4⟩ := atX_some h
    cases h2 : atX xs.reverse i with
    | none =>
      exfalso
      have : (xs.reverse.find? fun e => e.at_ == i) = none := by unfold atX at h2; simpa using h2
      have := List.find?_eq_none.1 this e (List.mem_reverse.2 he)
      simp [h3] at this
    | some l2 =>
      obtain ⟨e2, he2, h5, h6⟩ := atX_some h2
      rw [← h4, ← h6, at_inj hd he (List.mem_reverse.1 he2) (by rw [h3, h5])]
/-- What two patches write at a place, one after the other. -/
def thF (xs ys : List E) (i : Int) : Option L := (atX ys i).or (atX xs i)
theorem lastX_thF {xs ys : List E} (hx : dist xs) (hy : dist ys) : lastX (xs ++ ys) = thF xs ys := by
  funext i
  unfold lastX thF
  rw [List.reverse_append, atX_append, atX_rev hx, atX_rev hy]
theorem mpTo_step (f : Int → Option L) (k : Nat) : (mpTo f (k + 1)).length = (mpTo f k).length + c1 (f k).isSome := by
  cases h : f (k : Int) with
  | none => rw [mpTo_no h]; rfl
  | some l => rw [mpTo_yes h, List.length_append]; rfl
theorem mpL_len (f : Int → Option L) : (mpL f).length = cnt8 f := by
  unfold mpL cnt8
  rw [mpTo_step, mpTo_step, mpTo_step, mpTo_step, mpTo_step, mpTo_step, mpTo_step, mpTo_step]
  show [].length + _ + _ + _ + _ + _ + _ + _ + _ = _
  simp
/-- What Then answers. -/
def tnE (xs ys : List E) : Int := if fe (vx xs) (vx ys) = 0 then (if 4 < (mpL (thF xs ys)).length then 3 else 0) else fe (vx xs) (vx ys)
def tnR (xs ys : List E) : List E := if tnE xs ys = 0 then mpL (thF xs ys) else []
theorem tn_1 {xs ys : List E} (h : fe (vx xs) (vx ys) ≠ 0) : tnE xs ys = fe (vx xs) (vx ys) ∧ tnR xs ys = [] := by
  have : tnE xs ys = fe (vx xs) (vx ys) := by unfold tnE; rw [if_neg h]
  exact ⟨this, by unfold tnR; rw [this, if_neg h]⟩
theorem tn_2 {xs ys : List E} (h : fe (vx xs) (vx ys) = 0) (h4 : 4 < (mpL (thF xs ys)).length) : tnE xs ys = 3 ∧ tnR xs ys = [] := by
  have : tnE xs ys = 3 := by unfold tnE; rw [if_pos h, if_pos h4]
  exact ⟨this, by unfold tnR; rw [this, if_neg (by decide)]⟩
theorem tn_0 {xs ys : List E} (h : fe (vx xs) (vx ys) = 0) (h4 : ¬ 4 < (mpL (thF xs ys)).length) : tnE xs ys = 0 ∧ tnR xs ys = mpL (thF xs ys) := by
  have : tnE xs ys = 0 := by unfold tnE; rw [if_pos h, if_neg h4]
  exact ⟨this, by unfold tnR; rw [this, if_pos rfl]⟩
theorem tn_code {xs ys : List E} (h : fe (vx xs) (vx ys) = 0) : tnC xs ys = tnE xs ys ∧ tnL xs ys = tnR xs ys := by
  obtain ⟨z1, z2⟩ := fe_0 h
  have e := lastX_thF (dist_of (vx_ok z1).2.1) (dist_of (vx_ok z2).2.1)
  unfold tnC tnL
  rw [e, ← mpL_len]
  by_cases h4 : 4 < (mpL (thF xs ys)).length
  · rw [if_pos h4, if_pos h4, (tn_2 h h4).1, (tn_2 h h4).2]; exact ⟨rfl, rfl⟩
  · rw [if_neg h4, if_neg h4, (tn_0 h h4).1, (tn_0 h h4).2]; exact ⟨rfl, rfl⟩
theorem tn_ok {xs ys : List E} (h : tnE xs ys = 0) : vx xs = 0 ∧ vx ys = 0 ∧ (mpL (thF xs ys)).length ≤ 4 ∧ tnR xs ys = mpL (thF xs ys) := by
  by_cases hz : fe (vx xs) (vx ys) = 0
  · obtain ⟨z1, z2⟩ := fe_0 hz
    by_cases h4 : 4 < (mpL (thF xs ys)).length
    · rw [(tn_2 hz h4).1] at h; cases h
    · exact ⟨z1, z2, by omega, (tn_0 hz h4).2⟩
  · rw [(tn_1 hz).1] at h; exact absurd h hz
/-- A place in the patch of what two write: what the second writes there, else what the first. -/
theorem atX_mpL {f : Int → Option L} {i : Int} (h0 : 0 ≤ i) (h7 : i ≤ 7) : atX (mpL f) i = f i := by
  cases h : f i with
  | none =>
    refine atX_none fun e he h1 => ?_
    have := (mpL_mem.1 he).2
    rw [h1, h] at this
    cases this
  | some l => exact atX_mem (e := ⟨i, l⟩) (mpL_dist f) (mpL_mem.2 ⟨⟨h0, h7⟩, h⟩)
theorem do_then {ps : List L} {xs ys : List E} (hx : dist xs) (hy : dist ys) (h0 : ∀ e ∈ xs, 0 ≤ e.at_) (h1 : ∀ e ∈ ys, 0 ≤ e.at_) (h8 : ps.length ≤ 8) : doL (doL ps xs) ys = doL ps (mpL (thF xs ys)) := by
  refine lines_ext (by rw [doL_len, doL_len, doL_len]) fun i hi => ?_
  rw [doL_len, doL_len] at hi
  rw [doL_get ys _ i hy h1 (by rw [doL_len]; exact hi), doL_get _ ps i (mpL_dist _) (fun e he => (mpL_mem.1 he).1.1) hi, atX_mpL (by omega) (by omega)]
  have hd : (doL ps xs).getD i ⟨0, 0, 0, 0⟩ = (atX xs i).getD (ps.getD i ⟨0, 0, 0, 0⟩) := getD_of_get (doL_get xs ps i hx h0 hi)
  rw [hd]
  unfold thF
  cases atX ys (i : Int) <;> rfl
theorem then_ok {ps : List L} {xs ys : List E} (h : tnE xs ys = 0) (h1 : vpx ps xs 0 = 0) (h2 : vpx (doP ps xs) ys 0 = 0) : vpx ps (tnR xs ys) 0 = 0 ∧ doP ps (tnR xs ys) = doP (doP ps xs) ys := by
  obtain ⟨z1, z2, h4, e⟩ := tn_ok h
  obtain ⟨a1, a2, _, a4⟩ := vpx_ok h1
  obtain ⟨b1, b2, _, b4⟩ := vpx_ok h2
  have ed : doP ps xs = doL ps xs := by unfold doP; rw [if_pos h1]
  rw [ed] at h2 b4
  rw [doL_len] at b4
  have hp8 := (vp_ok a1).1
  obtain ⟨_, k2, k3⟩ := vx_ok z1
  obtain ⟨_, l2, l3⟩ := vx_ok z2
  have hm : ∀ e ∈ mpL (thF xs ys), (∃ e' ∈ xs, e'.at_ = e.at_ ∧ e'.ln = e.ln) ∨ (∃ e' ∈ ys, e'.at_ = e.at_ ∧ e'.ln = e.ln) := by
    intro e he
    have hf := (mpL_mem.1 he).2
    unfold thF at hf
    cases hy : atX ys e.at_ with
    | some l => rw [hy] at hf; injection hf with hf; obtain ⟨e', q1, q2, q3⟩ := atX_some hy; exact .inr ⟨e', q1, q2, by rw [q3, hf]⟩
    | none => rw [hy] at hf; obtain ⟨e', q1, q2, q3⟩ := atX_some (show atX xs e.at_ = some e.ln from hf); exact .inl ⟨e', q1, q2, q3⟩
  have hv : vpx ps (mpL (thF xs ys)) 0 = 0 := by
    have hx : vx (mpL (thF xs ys)) = 0 := by
      refine vx_0 h4 (set_of (mpL_dist _)) fun e he => ?_
      rw [Bool.and_eq_true]
      rcases hm e he with ⟨e', q1, q2, q3⟩ | ⟨e', q1, q2, q3⟩
      · rw [← q2, ← q3]; exact ⟨btw_true.2 (k3 e' q1).1, (k3 e' q1).2⟩
      · rw [← q2, ← q3]; exact ⟨btw_true.2 (l3 e' q1).1, (l3 e' q1).2⟩
    unfold vpx
    rw [a1, hx, if_pos (by rfl), if_pos]
    refine allBtw_of fun n hn => ?_
    obtain ⟨e, he, rfl⟩ := List.mem_map.1 hn
    rcases hm e he with ⟨e', q1, q2, q3⟩ | ⟨e', q1, q2, q3⟩
    · have := (k3 e' q1).1; have := a4 e' q1; rw [← q2]; omega
    · have := (l3 e' q1).1; have := b4 e' q1; rw [← q2]; omega
  rw [e]
  refine ⟨hv, ?_⟩
  have e2 : doP (doL ps xs) ys = doL (doL ps xs) ys := by unfold doP; rw [if_pos h2]
  rw [ed, e2, do_then (dist_of k2) (dist_of l2) (fun e he => (k3 e he).1.1) (fun e he => (l3 e he).1.1) hp8]
  unfold doP
  rw [if_pos hv]

end Go.Proofs.Ytkakdkolankmpaa

/- Then of the document's side (patches): contracts. -/
set_option linter.unusedVariables false
set_option linter.unusedSimpArgs false
namespace Go.Proofs.Ytkakdkolankmpaa
open Go.RowKit Go.Maps Tinker

theorem results_cell_row_tmp4 {fn : Func} {p u : Tmp} {ty : TypeId} (h : fn.results = #[.cell p ty, .tmp u]) {P : Program} (tmps : Array Value) (w : World) (g : Nat) (t : TypeId) (cs : Array Value) (fr : Nat × Nat) {fs : Array Field}
    (hp : tmps.getD p undef = .pointer (some ⟨g, 0, none⟩)) (hg : w.heap[g]? = some (.cells cs t fr))
    (hu : P.underlying ty = some (.struct fs)) (hi : (P.info? ty).map (·.size) = some cs.size) {v : Value} (hv : tmps.getD u undef = v) :
    (results fn tmps).run P w = .ok (.tuple #[.agg cs, v]) w := by
  subst hv
  have hp' : tmps[p]?.getD undef = .pointer (some ⟨g, 0, none⟩) := by simpa using hp
  simp [results, h, hp', asAddr, run_loadVar_row w g t ty cs fr _ hg hu rfl hi]

theorem size_ln4 : (Try.prog.info? 39).map (·.size) = some 4 := by kernel_rfl
theorem atX_first {xs : List E} {k : Nat} {e : E} {i : Int} (h : (xs.take k).all (fun z => z.at_ != i) = true) (he : xs[k]? = some e) (hi : e.at_ = i) : atX xs i = some e.ln := by
  have hk : k < xs.length := by
    rcases Nat.lt_or_ge k xs.length with h | h
    · exact h
    · rw [List.getElem?_eq_none h] at he; cases he
  have hs : xs = xs.take k ++ e :: xs.drop (k + 1) := by
    have h1 := (List.take_append_drop k xs).symm
    rw [List.drop_eq_getElem_cons hk] at h1
    rw [List.getElem?_eq_getElem hk] at he
    injection he with he
    rw [he] at h1
    exact h1
  rw [hs, atX_append, atX_none (xs := xs.take k) (fun z hz => by have := List.all_eq_true.1 h z hz; simpa using this), atX_cons, if_pos hi]
  rfl
theorem atX_no {xs : List E} {i : Int} (h : xs.all (fun z => z.at_ != i) = true) : atX xs i = none :=
  atX_none fun z hz => by have := List.all_eq_true.1 h z hz; simpa using this

end Go.Proofs.Ytkakdkolankmpaa

/- Then of the document's side: the walk. -/
set_option linter.unusedVariables false
set_option linter.unusedSimpArgs false
namespace Go.Proofs.Ytkakdkolankmpaa
open Go.RowKit Go.Maps Tinker

theorem thF_some {xs ys : List E} {i : Int} {l : L} (h : atX ys i = some l) : thF xs ys i = some l := by unfold thF; rw [h]; rfl
theorem thF_none {xs ys : List E} {i : Int} (h : atX ys i = none) : thF xs ys i = atX xs i := by unfold thF; rw [h]; rfl

end Go.Proofs.Ytkakdkolankmpaa
