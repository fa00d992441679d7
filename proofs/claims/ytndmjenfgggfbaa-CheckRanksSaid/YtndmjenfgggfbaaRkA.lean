/- Scores: in lowest terms; the suspects and the order of all lines. -/
import Derived.Test.YtndmjenfgggfbaaSrt
import Derived.Test.YtndmjenfgggfbaaScoB
set_option linter.unusedVariables false
set_option linter.unusedSimpArgs false
namespace Go.Proofs.Ytndmjenfgggfbaa
open Go.RowKit Tinker

theorem low_eq {a b c d : Nat} (hb : 0 < b) (hd : 0 < d) (h1 : Nat.Coprime a b) (h2 : Nat.Coprime c d) (h : a * d = c * b) : a = c ∧ b = d := by
  have e1 : b ∣ d := (h1.symm).dvd_of_dvd_mul_left (by rw [h]; exact Nat.dvd_mul_left b c)
  have e2 : d ∣ b := (h2.symm).dvd_of_dvd_mul_left (by rw [← h]; exact Nat.dvd_mul_left d a)
  have e : b = d := Nat.dvd_antisymm e1 e2
  subst e
  exact ⟨Nat.eq_of_mul_eq_mul_right hb h, rfl⟩
theorem frac_low (n d : Nat) (hd : 0 < d) : Nat.Coprime (n / Nat.gcd n d) (d / Nat.gcd n d) ∧ 0 < d / Nat.gcd n d :=
  ⟨Nat.coprime_div_gcd_div_gcd (Nat.gcd_pos_of_pos_right n hd), Nat.div_pos (Nat.le_of_dvd hd (Nat.gcd_dvd_right n d)) (Nat.gcd_pos_of_pos_right n hd)⟩
theorem frac_same {n d m e : Nat} (hd : 0 < d) (he : 0 < e) (h : fracA n d * fracB m e = fracA m e * fracB n d) : fracA n d = fracA m e ∧ fracB n d = fracB m e := by
  obtain ⟨h1, h2⟩ := frac_low n d hd
  obtain ⟨h3, h4⟩ := frac_low m e he
  unfold fracA fracB at *
  have := low_eq h2 h4 h1 h3 (by exact_mod_cast h)
  exact ⟨by rw [this.1], by rw [this.2]⟩
theorem fracB_pos {n d : Nat} (hd : 0 < d) : 0 < fracB n d := by unfold fracB; exact_mod_cast (frac_low n d hd).2
theorem fracA_nonneg (n d : Nat) : 0 ≤ fracA n d := by unfold fracA; exact Int.natCast_nonneg _
theorem fracA_pos {n d : Nat} (hn : 0 < n) : 0 < fracA n d := by
  unfold fracA; exact_mod_cast Nat.div_pos (Nat.le_of_dvd hn (Nat.gcd_dvd_left n d)) (Nat.gcd_pos_of_pos_left d hn)

theorem scQ_pos (ps : List L) (ts : List T) (i : Nat) : 0 < (scQ ps ts i).2 := fracB_pos (by unfold scD; omega)
theorem scQ_nonneg (ps : List L) (ts : List T) (i : Nat) : 0 ≤ (scQ ps ts i).1 := fracA_nonneg _ _
theorem scL_getD {ps : List L} {ts : List T} {i : Nat} (hi : i < ps.length) : (scL ps ts).getD i (0, 1) = scQ ps ts i := by
  rw [List.getD_eq_getElem?_getD, scL_get hi]; rfl
theorem scL_pos (ps : List L) (ts : List T) : PosQ (scL ps ts) := fun i => by
  by_cases hi : i < ps.length
  · rw [scL_getD hi]; exact scQ_pos _ _ _
  · rw [List.getD_eq_getElem?_getD, List.getElem?_eq_none (by rw [scL_length]; omega)]; decide
theorem scQ_same {ps : List L} {ts : List T} {i j : Nat} (h1 : ltQ (scQ ps ts i) (scQ ps ts j) = false) (h2 : ltQ (scQ ps ts j) (scQ ps ts i) = false) : scQ ps ts i = scQ ps ts j := by
  unfold ltQ at h1 h2
  rw [decide_eq_false_iff_not] at h1 h2
  have h : (scQ ps ts i).1 * (scQ ps ts j).2 = (scQ ps ts j).1 * (scQ ps ts i).2 := by omega
  unfold scQ at h ⊢
  obtain ⟨e1, e2⟩ := frac_same (by unfold scD; omega) (by unfold scD; omega) h
  rw [e1, e2]
theorem vr_of {ps : List L} {ts : List T} (h1 : vp ps = 0) (h2 : vts ts = 0) {t : T} (ht : t ∈ ts) : vr ps t.inn = 0 := by unfold vr fe; rw [if_pos h1]; exact (isT_ok ((vts_ok h2).2 t ht)).1
/-- The first line is done in each run. -/
theorem row_zero {ps : List L} {s : List Int} (hz : vr ps s = 0) (hp : 0 < ps.length) : (rowL ps s).getD 0 0 ≠ 0 := by
  have h8 := (vp_ok (vr_ok hz).1).1
  obtain ⟨l, hl⟩ := get_of_lt hp
  have e : doneA ps s = linesOf (runS ps s) := by
    unfold doneA; rw [if_pos hz]; exact plc_done runS_asc fun x hx => by have := runS_lt x hx; omega
  have e2 : ∃ t, doneA ps s = 0 :: t := by
    rw [e]; unfold runS linesOf; rw [tr_lt hl]; exact ⟨_, rfl⟩
  obtain ⟨t, ht⟩ := e2
  have h : ∀ k, k ≠ 0 → (rowTo ps.length (doneA ps s) k).getD 0 0 = 1 := by
    intro k
    induction k with
    | zero => intro h; exact absurd rfl h
    | succ k ih =>
      intro _
      rw [rowTo, Go.Proofs.Ytndmjenfgggfbaa.getD_set, rowTo_length]
      split
      · rfl
      · rename_i hne
        refine ih fun hk => hne ?_
        subst hk
        rw [ht]; exact ⟨rfl, hp⟩
  unfold rowL
  rw [h _ (by rw [ht]; simp)]
  decide
theorem nT_zero {ps : List L} {ts : List T} (hz : vpt ps ts = 0) (hp : 0 < ps.length) : ∀ k, k ≤ ts.length → nT false ps ts 0 k = fT ps ts k
  | 0, _ => rfl
  | k + 1, hk => by
    have ih := nT_zero hz hp k (by omega)
    obtain ⟨t, ht⟩ := get_of_lt (show k < ts.length by omega)
    obtain ⟨h1, h2⟩ := vpt_ok hz
    cases hq : pas ps t
    · rw [fT_yes ht hq, nT_yes ht hq (row_zero (vr_of h1 h2 (mem_of_get ht)) hp), ih]
    · rw [fT_no ht hq, nT_no ht (fun x => by rw [hq] at x; cases x.1), ih]
/-- Where tests fail, the first line's score is above 0. -/
theorem sc0_pos {ps : List L} {ts : List T} (hz : vpt ps ts = 0) (hp : 0 < ps.length) (hf : 0 < fT ps ts ts.length) : 0 < (scQ ps ts 0).1 := by
  rw [scQ_ref hp]
  refine fracA_pos ?_
  unfold rN
  rw [if_neg (by omega), nT_zero hz hp _ (Nat.le_refl _)]
  exact hf
theorem sc_none {ps : List L} {ts : List T} {i : Nat} (hi : i < ps.length) (hf : fT ps ts ts.length = 0) : (scQ ps ts i).1 = 0 := by
  rw [scQ_ref hi]
  unfold rN rD
  rw [if_pos hf, if_pos hf]
  exact (frac_zero (Nat.le_refl 1)).1

/-- Whether a line is a suspect. -/
def suP (ps : List L) (ts : List T) (i : Nat) : Bool := topB (scL ps ts) i && decide (0 < fT ps ts ts.length)
def suB (ps : List L) (ts : List T) : List Bool := (List.range ps.length).map (suP ps ts)
theorem suB_length (ps : List L) (ts : List T) : (suB ps ts).length = ps.length := by simp [suB]
/-- What is so far the greatest score. -/
def grT (ps : List L) (ts : List T) (k : Nat) (g : Int × Int) : Prop := (∀ j, j < k → ltQ g (scQ ps ts j) = false) ∧ (g = (0, 1) ∨ ∃ j, j < k ∧ j < ps.length ∧ g = scQ ps ts j)
theorem grT_pos {ps : List L} {ts : List T} {k : Nat} {g : Int × Int} (h : grT ps ts k g) : 0 < g.2 := by
  rcases h.2 with rfl | ⟨j, _, _, rfl⟩
  · decide
  · exact scQ_pos _ _ _
theorem grT_zero (ps : List L) (ts : List T) : grT ps ts 0 (0, 1) := ⟨fun j hj => by omega, .inl rfl⟩
theorem grT_yes {ps : List L} {ts : List T} {k : Nat} {g : Int × Int} (h : grT ps ts k g) (hk : k < ps.length) (hl : ltQ g (scQ ps ts k) = true) : grT ps ts (k + 1) (scQ ps ts k) :=
  ⟨fun j hj => by
    by_cases e : j = k
    · subst e; exact ltQ_irr _
    · cases hh : ltQ (scQ ps ts k) (scQ ps ts j)
      · rfl
      · have := ltQ_trans' (grT_pos h) (scQ_pos ps ts k) (scQ_pos ps ts j) hl (ltQ_asym hh)
        rw [h.1 j (by omega)] at this; contradiction, .inr ⟨k, by omega, hk, rfl⟩⟩
theorem grT_no {ps : List L} {ts : List T} {k : Nat} {g : Int × Int} (h : grT ps ts k g) (hl : ltQ g (scQ ps ts k) = false) : grT ps ts (k + 1) g :=
  ⟨fun j hj => by
    by_cases e : j = k
    · subst e; exact hl
    · exact h.1 j (by omega), h.2.imp id fun ⟨j, h1, h2, h3⟩ => ⟨j, by omega, h2, h3⟩⟩
theorem suP_iff {ps : List L} {ts : List T} {g : Int × Int} {i : Nat} (hz : vpt ps ts = 0) (h : grT ps ts ps.length g) (hi : i < ps.length) : suP ps ts i = (decide ((scQ ps ts i).1 = g.1) && decide ((scQ ps ts i).2 = g.2) && decide (0 < (scQ ps ts i).1)) := by
  have key : suP ps ts i = true ↔ (scQ ps ts i = g ∧ 0 < (scQ ps ts i).1) := by
    unfold suP
    rw [Bool.and_eq_true, decide_eq_true_eq, topB_iff, scL_getD hi, scL_length]
    constructor
    · rintro ⟨h1, h2⟩
      have h0 := h1 0 (by omega)
      have hp0 := sc0_pos hz (by omega) h2
      rw [scL_getD (show 0 < ps.length by omega)] at h0
      have hpi : 0 < (scQ ps ts i).1 := by
        unfold ltQ at h0
        rw [decide_eq_false_iff_not] at h0
        have x1 : 0 < (scQ ps ts 0).1 * (scQ ps ts i).2 := Int.mul_pos hp0 (scQ_pos _ _ _)
        have x2 : 0 < (scQ ps ts i).1 * (scQ ps ts 0).2 := by omega
        exact Int.pos_of_mul_pos_left x2 (by have := scQ_pos ps ts 0; omega)
      refine ⟨?_, hpi⟩
      rcases h.2 with rfl | ⟨j, _, hj, rfl⟩
      · have := h.1 i hi
        unfold ltQ at this
        rw [decide_eq_false_iff_not] at this
        omega
      · refine scQ_same ?_ (h.1 i hi)
        have := h1 j hj
        rw [scL_getD hj] at this
        exact this
    · rintro ⟨rfl, h2⟩
      refine ⟨fun k hk => by rw [scL_getD hk]; exact h.1 k hk, ?_⟩
      rcases Nat.eq_zero_or_pos (fT ps ts ts.length) with e | e
      · rw [sc_none hi e] at h2; omega
      · exact e
  have k2 : (decide ((scQ ps ts i).1 = g.1) && decide ((scQ ps ts i).2 = g.2) && decide (0 < (scQ ps ts i).1)) = true ↔ (scQ ps ts i = g ∧ 0 < (scQ ps ts i).1) := by
    rw [Bool.and_eq_true, Bool.and_eq_true, decide_eq_true_eq, decide_eq_true_eq, decide_eq_true_eq, Prod.ext_iff]
  exact Bool.eq_iff_iff.2 (key.trans k2.symm)

/-- The suspects. -/
def suL (ps : List L) (ts : List T) : List Int := if vpt ps ts = 0 then plc (suB ps ts) else []
theorem suL_ok {ps : List L} {ts : List T} (h : vpt ps ts = 0) : suL ps ts = plc (suB ps ts) := by unfold suL; rw [if_pos h]
theorem suL_no {ps : List L} {ts : List T} (h : vpt ps ts ≠ 0) : suL ps ts = [] := by unfold suL; rw [if_neg h]
/-- The order of all lines. -/
def IsRank (ps : List L) (ts : List T) (zs : List Int) : Prop := if vpt ps ts = 0 then ∃ ns : List Nat, zs = ns.map Int.ofNat ∧ Ranked (scL ps ts) ps.length ns else zs = []
theorem isRank_unique {ps : List L} {ts : List T} {xs ys : List Int} (h : IsRank ps ts xs) (h2 : IsRank ps ts ys) : xs = ys := by
  unfold IsRank at h h2
  split at h
  · rename_i hz
    rw [if_pos hz] at h2
    obtain ⟨ns, rfl, hn⟩ := h
    obtain ⟨ms, rfl, hm⟩ := h2
    rw [ranked_unique hn hm]
  · rename_i hz
    rw [if_neg hz] at h2
    rw [h, h2]
theorem isRank_le {ps : List L} {ts : List T} {xs : List Int} (h : IsRank ps ts xs) : xs.length ≤ ps.length := by
  unfold IsRank at h
  split at h
  · obtain ⟨ns, rfl, hn⟩ := h
    rw [List.length_map, ranked_length hn]; exact Nat.le_refl _
  · rw [h]; exact Nat.zero_le _
theorem suB_get {ps : List L} {ts : List T} {i : Nat} (hi : i < ps.length) : (suB ps ts)[i]? = some (suP ps ts i) := by
  unfold suB; rw [List.getElem?_map, List.getElem?_range hi]; rfl
theorem plc_suB (ps : List L) (ts : List T) : plc (suB ps ts) = ((List.range ps.length).filter (suP ps ts)).map Int.ofNat := by
  unfold plc plcTo
  rw [suB_length]
  congr 1
  refine List.filter_congr fun i hi => ?_
  rw [List.getD_eq_getElem?_getD, suB_get (List.mem_range.1 hi)]; rfl
/-- The suspects are the first ones of all. -/
theorem su_first {ps : List L} {ts : List T} {zs : List Int} (h : IsRank ps ts zs) : suL ps ts = zs.take (suL ps ts).length := by
  unfold IsRank at h
  by_cases hz : vpt ps ts = 0
  · rw [if_pos hz] at h
    obtain ⟨ns, rfl, hn⟩ := h
    rw [suL_ok hz, plc_suB]
    by_cases hf : 0 < fT ps ts ts.length
    · have e : (List.range ps.length).filter (suP ps ts) = (List.range (scL ps ts).length).filter (topB (scL ps ts)) := by
        rw [scL_length]
        refine List.filter_congr fun i hi => ?_
        unfold suP; rw [decide_eq_true hf, Bool.and_true]
      have hn2 : Ranked (scL ps ts) (scL ps ts).length ns := by rw [scL_length]; exact hn
      have := top_first (scL_pos ps ts) hn2
      rw [e, List.length_map, ← List.map_take, ← this]
    · have e : (List.range ps.length).filter (suP ps ts) = [] := by
        rw [List.filter_eq_nil_iff]; intro a _
        unfold suP; rw [decide_eq_false hf]; simp
      rw [e]; simp
  · rw [suL_no hz]; simp

end Go.Proofs.Ytndmjenfgggfbaa
