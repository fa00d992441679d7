/- Several texts in one. -/
import Derived.Test.YtfclfmloceddfaaGreatSgC
import Derived.Test.YtfclfmloceddfaaGreatFxR
import Derived.Test.YtfclfmloceddfaaGreatNear
import Derived.Deep.RegionHeld
import Derived.Test.YtfclfmloceddfaaGreatRtm
import Derived.Test.YtfclfmloceddfaaGreatChkC
/- mutants, Mutants, kills, Kills of seek: contracts. -/
set_option linter.unusedVariables false
set_option linter.unusedSimpArgs false
namespace Go.Proofs.YtfclfmloceddfaaGreat
open Go.RowKit Go.Shelf Tinker
attribute [local go_sem] Oper.semAt_some

/-- Mutants; which tests kill one. -/
def muR (ps : List L) : List E := if vp ps = 0 then edL ps 0 else []
theorem edL_len9 (ps : List L) (n : Int) (hv : vp ps = 0) : (edL ps n).length ≤ 8000 := by
  have := edK_len ps n ps.length
  have := (vp_ok hv).1
  unfold edL
  omega
theorem muR_len (ps : List L) : (muR ps).length ≤ 8000 := by
  unfold muR
  split
  · rename_i h; exact edL_len9 ps 0 h
  · simp
def klC (ps : List L) (ts : List T) (m : E) : Int := if feL [feL [vp ps, vts ts], plC ps m.at_] = 0 then (if (isLn m.ln && nearB (lnD ps m.at_.toNat) m.ln) = true then 0 else 1) else feL [feL [vp ps, vts ts], plC ps m.at_]
def klR (ps : List L) (ts : List T) (m : E) : List Int := if klC ps ts m = 0 then trL true ps (doL ps [m]) ts else []
theorem klC_at {ps : List L} {ts : List T} {m : E} (h : feL [feL [vp ps, vts ts], plC ps m.at_] = 0) : vp ps = 0 ∧ vts ts = 0 ∧ ∃ (i : Nat) (x : L), m = ⟨(i : Int), x⟩ ∧ i < ps.length := by
  obtain ⟨h1, h2⟩ := fe2_ok h
  obtain ⟨h3, h4⟩ := fe2_ok h1
  obtain ⟨h5, h6⟩ := plc_ok h2
  refine ⟨h3, h4, m.at_.toNat, m.ln, ?_, by omega⟩
  have : ((m.at_.toNat : Nat) : Int) = m.at_ := by omega
  rw [this]
theorem tr_one {ps : List L} {ts : List T} {m : E} (h : vpx ps [m] 0 = 0) (ht : vts ts = 0) : trR true ps [m] ts = trL true ps (doL ps [m]) ts := by
  unfold trR
  rw [ht, if_pos h]

theorem edit_size {w W0 : World} {x : E} (hW0 : W0 = w.alloc (.cells (eV x) 49)) : EditsAt (W0.alloc (.cells (eV x) 49)) (some ⟨w.heap.size + 1, 0, none⟩) [x] := by
  have h := edit_at W0 49 x
  rwa [show W0.heap.size = w.heap.size + 1 by rw [hW0]; simp] at h

end Go.Proofs.YtfclfmloceddfaaGreat

/- mutants, Mutants, kills of the document (package tinkerref05): contracts. -/
set_option linter.unusedVariables false
set_option linter.unusedSimpArgs false
namespace Go.Proofs.YtfclfmloceddfaaGreat
open Go.RowKit Go.Shelf Tinker

theorem cnd_tmpl (ps : List L) (i : Nat) : cndL ps i 0 = tmpl (lnD ps i) := by
  rw [cnd_filter]
  unfold tmpl
  refine List.filter_congr fun m _ => ?_
  unfold isKd
  rw [if_pos rfl]
  cases hn : nearB (lnD ps i) m
  · rfl
  · rw [eqL_false (near_ne hn)]
    rfl

end Go.Proofs.YtfclfmloceddfaaGreat

/- Plain mathematics: mutants that no test kills, and the share of the others. -/
set_option linter.unusedVariables false
set_option linter.unusedSimpArgs false
namespace Go.Proofs.YtfclfmloceddfaaGreat
open Go.RowKit Go.Shelf Tinker

theorem nodup_len {α : Type} : ∀ {l m : List α}, l.Pairwise (· ≠ ·) → (∀ x ∈ l, x ∈ m) → l.length ≤ m.length
  | [], _, _, _ => Nat.zero_le _
  | x :: r, m, hn, hs => by
    haveI : DecidableEq α := fun a b => Classical.propDecidable (a = b)
    obtain ⟨h1, h2⟩ := List.pairwise_cons.1 hn
    have hx := hs x (by simp)
    have ih := nodup_len (l := r) (m := m.erase x) h2 (fun y hy => (List.mem_erase_of_ne (fun e => h1 y hy e.symm)).2 (hs y (List.mem_cons_of_mem _ hy)))
    rw [List.length_erase_of_mem hx] at ih
    have hp := List.length_pos_of_mem hx
    rw [List.length_cons]
    omega
theorem rawL_len (l : L) : (rawL l).length ≤ 20 := by
  unfold rawL
  have h1 : (numsL l).length ≤ 2 := by unfold numsL; split <;> (try split) <;> simp
  have h2 : ∀ r, (regsTo l r).length ≤ 3 := fun r => by unfold regsTo; simp only [List.length_append]; split <;> split <;> split <;> simp
  have h3 : (regsL l).length ≤ 12 := by
    unfold regsL
    have e : rgI 0 4 = [0, 1, 2, 3] := by rfl
    rw [e]
    simp only [List.flatMap_cons, List.flatMap_nil, List.length_append, List.length_nil]
    have := h2 0; have := h2 1; have := h2 2; have := h2 3
    omega
  have h4 : (opsL l).length ≤ 4 := by unfold opsL; split <;> simp
  have h5 : (swpL l).length ≤ 1 := by unfold swpL; split <;> simp
  simp only [List.length_append, List.length_singleton]
  omega
theorem tmpl_len20 {l : L} (hl : isLn l = true) : (tmpl l).length ≤ 20 := by
  refine Nat.le_trans (nodup_len (m := rawL l) ?_ fun x hx => ?_) (rawL_len l)
  · unfold tmpl
    refine (allL_sorted.filter _).imp fun {x y} h e => ?_
    rw [e, ltL_irr] at h
    cases h
  · obtain ⟨h1, h2⟩ := tmpl_mem.1 hx
    exact raw_of_near hl h1 h2
theorem edK_len20 {ps : List L} (hv : vp ps = 0) : ∀ k, k ≤ ps.length → (edK ps 0 k).length ≤ 20 * k
  | 0, _ => by simp [edK]
  | k + 1, hk => by
    have ih := edK_len20 hv k (by omega)
    obtain ⟨l, hl⟩ := get_of_lt (show k < ps.length by omega)
    have h1 := tmpl_len20 ((vp_ok hv).2 l (mem_of_get hl))
    rw [edK_succ, List.length_append, List.length_map, cnd_tmpl, lnD_at hl]
    omega
theorem edL_len20 {ps : List L} (hv : vp ps = 0) : (edL ps 0).length ≤ 160 := by
  have := edK_len20 hv ps.length (Nat.le_refl _)
  have := (vp_ok hv).1
  unfold edL
  omega
/-- The mutants that no test kills. -/
def alB (ps : List L) (ts : List T) (e : E) : Bool := decide (0 < (trR true ps [e] ts).length)
def alL (ps : List L) (ts : List T) : List E := (edL ps 0).filter fun e => !alB ps ts e
def alC (ps : List L) (ts : List T) : Int := feL [vp ps, vts ts]
def alR (ps : List L) (ts : List T) : List E := if alC ps ts = 0 then alL ps ts else []
theorem alL_le (ps : List L) (ts : List T) : (alL ps ts).length ≤ (edL ps 0).length := List.length_filter_le _ _
theorem alC_ok {ps : List L} {ts : List T} (h : alC ps ts = 0) : vp ps = 0 ∧ vts ts = 0 := fe2_ok h
theorem alR_len (ps : List L) (ts : List T) : (alR ps ts).length ≤ 1000 := by
  unfold alR
  split
  · rename_i h
    have := alL_le ps ts
    have := edL_len20 (alC_ok h).1
    omega
  · simp
/-- How many of the first mutants some test kills. -/
def kiT (ps : List L) (ts : List T) (k : Nat) : Nat := (((edL ps 0).take k).filter (alB ps ts)).length
theorem kiT_yes {ps : List L} {ts : List T} {k : Nat} {e : E} (h : (edL ps 0)[k]? = some e) (hb : alB ps ts e = true) : kiT ps ts (k + 1) = kiT ps ts k + 1 := by
  unfold kiT
  rw [take_snoc h, List.filter_append, List.length_append]
  simp [hb]
theorem kiT_no {ps : List L} {ts : List T} {k : Nat} {e : E} (h : (edL ps 0)[k]? = some e) (hb : alB ps ts e = false) : kiT ps ts (k + 1) = kiT ps ts k := by
  unfold kiT
  rw [take_snoc h, List.filter_append, List.length_append]
  simp [hb]
theorem filter_both {α : Type} (f : α → Bool) : ∀ l : List α, (l.filter f).length + (l.filter fun x => !f x).length = l.length
  | [] => rfl
  | x :: r => by
    have ih := filter_both f r
    cases h : f x
    · simp only [List.filter_cons, h, List.length_cons]
      simp
      omega
    · simp only [List.filter_cons, h, List.length_cons]
      simp
      omega
def kiN (ps : List L) (ts : List T) : Nat := kiT ps ts (edL ps 0).length
theorem kiN_al (ps : List L) (ts : List T) : kiN ps ts + (alL ps ts).length = (edL ps 0).length := by
  unfold kiN kiT alL
  rw [List.take_length]
  exact filter_both _ _
/-- What Score answers: its code, and the fraction. -/
def scC (ps : List L) (ts : List T) : Int := if alC ps ts = 0 then (if (edL ps 0).length = 0 then 8 else 0) else alC ps ts
def scA (ps : List L) (ts : List T) : Int := if scC ps ts = 0 then fracA (kiN ps ts) (edL ps 0).length else 0
def scB (ps : List L) (ts : List T) : Int := if scC ps ts = 0 then fracB (kiN ps ts) (edL ps 0).length else 0
theorem scC_ok {ps : List L} {ts : List T} (h : scC ps ts = 0) : alC ps ts = 0 ∧ vp ps = 0 ∧ vts ts = 0 ∧ ¬ (edL ps 0).length = 0 := by
  unfold scC at h
  split at h
  · rename_i h1
    split at h
    · cases h
    · rename_i h2
      exact ⟨h1, (alC_ok h1).1, (alC_ok h1).2, h2⟩
  · rename_i h1
    exact absurd h h1
theorem frac_bd {n d : Nat} (hd : 1 ≤ d) (hn : n ≤ d) : 1 ≤ fracB n d ∧ fracB n d ≤ (d : Int) ∧ 0 ≤ fracA n d ∧ fracA n d ≤ fracB n d := by
  unfold fracA fracB
  have hg : 0 < Nat.gcd n d := Nat.gcd_pos_of_pos_right _ hd
  have h1 : 0 < d / Nat.gcd n d := Nat.div_pos (Nat.le_of_dvd hd (Nat.gcd_dvd_right n d)) hg
  have h2 : d / Nat.gcd n d ≤ d := Nat.div_le_self _ _
  have h3 : n / Nat.gcd n d ≤ d / Nat.gcd n d := Nat.div_le_div_right hn
  exact ⟨by exact_mod_cast h1, by exact_mod_cast h2, Int.natCast_nonneg _, by exact_mod_cast h3⟩
theorem frac_mono {m n d : Nat} (hd : 1 ≤ d) (h : m ≤ n) : fracA m d * fracB n d ≤ fracA n d * fracB m d := by
  have hg1 : 0 < Nat.gcd m d := Nat.gcd_pos_of_pos_right _ hd
  have hg2 : 0 < Nat.gcd n d := Nat.gcd_pos_of_pos_right _ hd
  have key : (m / Nat.gcd m d) * (d / Nat.gcd n d) ≤ (n / Nat.gcd n d) * (d / Nat.gcd m d) := by
    refine Nat.le_of_mul_le_mul_right (c := Nat.gcd m d * Nat.gcd n d) ?_ (Nat.mul_pos hg1 hg2)
    have e1 : (m / Nat.gcd m d) * (d / Nat.gcd n d) * (Nat.gcd m d * Nat.gcd n d) = m * d := by
      rw [Nat.mul_mul_mul_comm, Nat.div_mul_cancel (Nat.gcd_dvd_left m d), Nat.div_mul_cancel (Nat.gcd_dvd_right n d)]
    have e2 : (n / Nat.gcd n d) * (d / Nat.gcd m d) * (Nat.gcd m d * Nat.gcd n d) = n * d := by
      rw [Nat.mul_comm (Nat.gcd m d), Nat.mul_mul_mul_comm, Nat.div_mul_cancel (Nat.gcd_dvd_left n d), Nat.div_mul_cancel (Nat.gcd_dvd_right m d)]
    rw [e1, e2]
    exact Nat.mul_le_mul_right d h
  unfold fracA fracB
  exact_mod_cast key
/-- A test less kills no more. -/
theorem plcTo_pre {l m : List Bool} : ∀ k, (∀ i, i < k → l.getD i false = m.getD i false) → plcTo l k = plcTo m k
  | 0, _ => rfl
  | k + 1, h => by
    unfold plcTo
    rw [List.range_succ, List.filter_append, List.filter_append, List.map_append, List.map_append]
    have ih := plcTo_pre k fun i hi => h i (by omega)
    unfold plcTo at ih
    rw [ih]
    congr 1
    have := h k (by omega)
    simp only [List.filter_cons, List.filter_nil, this]
theorem plcTo_grow (l : List Bool) (k : Nat) : ∀ d, (plcTo l k).length ≤ (plcTo l (k + d)).length
  | 0 => Nat.le_refl _
  | d + 1 => by
    refine Nat.le_trans (plcTo_grow l k d) ?_
    show _ ≤ (plcTo l (k + d + 1)).length
    unfold plcTo
    rw [List.range_succ, List.filter_append, List.map_append, List.length_append]
    omega
theorem tr_less (b : Bool) (ps qs : List L) (ts : List T) (n : Nat) : (trL b ps qs (ts.take n)).length ≤ (trL b ps qs ts).length := by
  unfold trL plc
  rw [List.map_take]
  generalize (ts.map fun t => pas ps t == b && pas qs t != b) = bs
  by_cases hn : n ≤ bs.length
  · rw [List.length_take, Nat.min_eq_left hn]
    have h1 : plcTo (bs.take n) n = plcTo bs n := plcTo_pre n fun i hi => by
      rw [List.getD_eq_getElem?_getD, List.getD_eq_getElem?_getD, List.getElem?_take_of_lt hi]
    rw [h1]
    have := plcTo_grow bs n (bs.length - n)
    rwa [Nat.add_sub_cancel' hn] at this
  · rw [List.take_of_length_le (by omega)]
    exact Nat.le_refl _
theorem vts_take {ts : List T} {n : Nat} (h : vts ts = 0) : vts (ts.take n) = 0 := by
  obtain ⟨h1, h2⟩ := vts_ok h
  unfold vts
  rw [if_pos (by rw [List.length_take]; omega), if_pos]
  rw [List.all_eq_true]
  exact fun t ht => h2 t (List.mem_of_mem_take ht)
theorem kiN_less {ps : List L} {ts : List T} {n : Nat} (hv : vp ps = 0) (ht : vts ts = 0) : kiN ps (ts.take n) ≤ kiN ps ts := by
  have h2 := vts_take (n := n) ht
  unfold kiN kiT
  rw [List.take_length]
  have key : ∀ l : List E, (∀ e ∈ l, e ∈ edL ps 0) → (l.filter (alB ps (ts.take n))).length ≤ (l.filter (alB ps ts)).length := by
    intro l
    induction l with
    | nil => intro _; exact Nat.le_refl _
    | cons e r ih =>
      intro hm
      have ih := ih fun x hx => hm x (List.mem_cons_of_mem _ hx)
      have hok := edL_ok hv (hm e (by simp))
      have h3 := tr_less true ps (doL ps [e]) ts n
      have h4 : alB ps (ts.take n) e = true → alB ps ts e = true := by
        unfold alB
        rw [tr_one hok h2, tr_one hok ht, decide_eq_true_eq, decide_eq_true_eq]
        omega
      cases ha : alB ps (ts.take n) e
      · rw [List.filter_cons_of_neg (by rw [ha]; decide)]
        refine Nat.le_trans ih ?_
        rw [List.filter_cons]
        split
        · simp
        · exact Nat.le_refl _
      · rw [List.filter_cons_of_pos ha, List.filter_cons_of_pos (h4 ha), List.length_cons, List.length_cons]
        omega
  exact key _ fun e he => he
theorem scC_take {ps : List L} {ts : List T} {n : Nat} (h : scC ps ts = 0) : scC ps (ts.take n) = 0 := by
  obtain ⟨h1, h2, h3, h4⟩ := scC_ok h
  unfold scC
  rw [if_pos (by unfold alC; rw [h2, vts_take h3]; rfl), if_neg h4]
theorem sc_facts {ps : List L} {ts : List T} {n : Nat} (h : scC ps ts = 0) : (1 ≤ scB ps (ts.take n) ∧ scB ps (ts.take n) ≤ 1000 ∧ 0 ≤ scA ps (ts.take n) ∧ scA ps (ts.take n) ≤ 1000) ∧ (1 ≤ scB ps ts ∧ scB ps ts ≤ 1000 ∧ 0 ≤ scA ps ts ∧ scA ps ts ≤ scB ps ts) ∧ scA ps (ts.take n) * scB ps ts ≤ scA ps ts * scB ps (ts.take n) := by
  obtain ⟨h1, h2, h3, h4⟩ := scC_ok h
  have hz := scC_take (n := n) h
  have hl := edL_len20 h2
  unfold scA scB
  rw [if_pos h, if_pos h, if_pos hz, if_pos hz]
  have k1 := kiN_al ps ts
  have k2 := kiN_al ps (ts.take n)
  have b1 := frac_bd (n := kiN ps ts) (d := (edL ps 0).length) (by omega) (by omega)
  have b2 := frac_bd (n := kiN ps (ts.take n)) (d := (edL ps 0).length) (by omega) (by omega)
  exact ⟨⟨b2.1, by omega, b2.2.2.1, by omega⟩, ⟨b1.1, by omega, b1.2.2.1, b1.2.2.2⟩, frac_mono (by omega) (kiN_less h2 h3)⟩

end Go.Proofs.YtfclfmloceddfaaGreat
