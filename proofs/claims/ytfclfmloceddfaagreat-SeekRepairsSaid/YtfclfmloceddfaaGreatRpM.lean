/- Plain mathematics: a repair that is proposed is good and minimal. -/
import Derived.Test.YtfclfmloceddfaaGreatDbD
set_option linter.unusedVariables false
set_option linter.unusedSimpArgs false
namespace Go.Proofs.YtfclfmloceddfaaGreat
open Go.RowKit Go.Shelf Tinker

theorem gd_empty {ps : List L} {ts : List T} (hv : vp ps = 0) (ht : vts ts = 0) (hn : ndC ps ts = 0) : gdB ps ts [] = false := by
  rw [nd_all hv ht] at hn
  show (ts.all fun t => pas (doL ps []) t) = false
  rw [show doL ps [] = ps from rfl]
  cases h : ts.all fun t => pas ps t with
  | false => rfl
  | true => rw [h, if_pos rfl] at hn; cases hn
theorem mn_one {g : List E → Bool} {y : E} (hg : g [y] = true) (h0 : g [] = false) : mnC g [y] = true := by
  rw [mn_eq, mn_iff]
  refine ⟨hg, fun z hz hl => ?_⟩
  have : z = [] := List.eq_nil_of_length_eq_zero (by simp at hl; simp [hl])
  rw [this]; exact h0
theorem sub_two {x y : E} {z : List E} (h : z.Sublist [x, y]) (hl : z.length < 2) : z = [] ∨ z = [x] ∨ z = [y] := by
  cases h with
  | cons _ h =>
    cases h with
    | cons _ h => cases h; exact .inl rfl
    | cons_cons _ h => cases h; exact .inr (.inr rfl)
  | cons_cons _ h =>
    cases h with
    | cons _ h => cases h; exact .inr (.inl rfl)
    | cons_cons _ h => cases h; simp at hl
theorem mn_two {g : List E → Bool} {z : E × E} (hg : g (pE z) = true) (h0 : g [] = false) (h1 : g [z.1] = false) (h2 : g [z.2] = false) : mnC g (pE z) = true := by
  rw [mn_eq, mn_iff]
  refine ⟨hg, fun s hs hl => ?_⟩
  rcases sub_two hs hl with rfl | rfl | rfl
  · exact h0
  · exact h1
  · exact h2
theorem rpS_some {ps : List L} {ts : List T} {n : Int} {r : RP} {y : E} {s : Int} (h : smX ps ts (edL ps n) = some (y, s)) : rpS ps ts n r = ([y], n, true) := by unfold rpS; rw [h]
theorem rpS_none {ps : List L} {ts : List T} {n : Int} {r : RP} (h : smX ps ts (edL ps n) = none) : rpS ps ts n r = r := by unfold rpS; rw [h]
/-- What Repair comes to: one edit that is good, or a good pair whose edits are not good alone, or nothing. -/
theorem rpF_cases (ps : List L) (ts : List T) : (∃ n y, 0 ≤ n ∧ n ≤ 2 ∧ y ∈ edL ps n ∧ gdB ps ts [y] = true ∧ rpF ps ts 0 = ([y], n, true)) ∨ ((∀ x ∈ edL ps 0, gdB ps ts [x] = false) ∧ rpF ps ts 0 = rp3 ps ts) := by
  have e0 : rpF ps ts 0 = rpS ps ts 0 (rpS ps ts 1 (rpS ps ts 2 (rp3 ps ts))) := rfl
  rw [e0]
  cases h0 : smX ps ts (edL ps 0) with
  | some o =>
    obtain ⟨y, s⟩ := o
    obtain ⟨a1, a2, _⟩ := (smX_inv ps ts _).2 y s h0
    exact .inl ⟨0, y, by omega, by omega, a1, a2, rpS_some h0⟩
  | none =>
    rw [rpS_none h0]
    cases h1 : smX ps ts (edL ps 1) with
    | some o =>
      obtain ⟨y, s⟩ := o
      obtain ⟨a1, a2, _⟩ := (smX_inv ps ts _).2 y s h1
      exact .inl ⟨1, y, by omega, by omega, a1, a2, rpS_some h1⟩
    | none =>
      rw [rpS_none h1]
      cases h2 : smX ps ts (edL ps 2) with
      | some o =>
        obtain ⟨y, s⟩ := o
        obtain ⟨a1, a2, _⟩ := (smX_inv ps ts _).2 y s h2
        exact .inl ⟨2, y, by omega, by omega, a1, a2, rpS_some h2⟩
      | none =>
        rw [rpS_none h2]
        exact .inr ⟨(smX_inv ps ts _).1 h0, rfl⟩
theorem rp_facts {ps : List L} {ts : List T} (h : (rpQ ps ts).2.2 = true) : skC ps ts 0 = 0 ∧ vpx ps (rpQ ps ts).1 (vts ts) = 0 ∧ gdR ps (rpQ ps ts).1 ts = true ∧ mnR ps (rpQ ps ts).1 ts = true ∧ (rpQ ps ts).1.length ≤ 2 := by
  unfold rpQ at h ⊢
  split at h
  · rename_i hz
    obtain ⟨v1, v2, v3, v4⟩ := skC_ok hz
    have h0 := gd_empty v1 v2 v4
    rw [if_pos hz]
    refine ⟨hz, ?_⟩
    rcases rpF_cases ps ts with ⟨n, y, n0, n2, hy, hg, e⟩ | ⟨hn, e⟩
    · rw [e]
      have v := edL_ok v1 hy
      refine ⟨by rw [v2]; exact v, ?_, ?_, by simp⟩
      · unfold gdR; rw [v2, if_pos v]; exact hg
      · unfold mnR; rw [v2, if_pos v]; exact mn_one hg h0
    · rw [e] at h ⊢
      have h : (dbO ps ts).isSome = true := h
      obtain ⟨o, ho⟩ := Option.isSome_iff_exists.1 h
      obtain ⟨y, s⟩ := o
      have hq : (rp3 ps ts).1 = pE y := by
        show dbL ps ts = _
        unfold dbL
        rw [ho]
      obtain ⟨b1, b2, b3⟩ := dmX_ok ho
      have v := pE_ok v1 b1
      obtain ⟨c1, c2, _⟩ := prL_mem b1
      rw [hq]
      refine ⟨by rw [v2]; exact v, ?_, ?_, by simp [pE]⟩
      · unfold gdR; rw [v2, if_pos v]; exact b2
      · unfold mnR; rw [v2, if_pos v]; exact mn_two b2 h0 (hn _ c1) (hn _ c2)
  · cases h
theorem rp_none {ps : List L} {ts : List T} (h : (rpQ ps ts).2.2 = false) : (rpQ ps ts).1 = [] ∧ (rpQ ps ts).2.1 = 0 := by
  unfold rpQ at h ⊢
  split at h
  · rename_i hz
    rw [if_pos hz]
    rcases rpF_cases ps ts with ⟨n, y, n0, n2, hy, hg, e⟩ | ⟨hn, e⟩
    · rw [e] at h; cases h
    · rw [e] at h ⊢
      have h : (dbO ps ts).isSome = false := h
      constructor
      · show dbL ps ts = []
        unfold dbL
        cases hq : dbO ps ts with
        | none => rfl
        | some y => rw [hq] at h; cases h
      · show (if (dbO ps ts).isSome = true then (3 : Int) else 0) = 0
        rw [h]; rfl
  · rename_i hz
    rw [if_neg hz]
    exact ⟨rfl, rfl⟩

end Go.Proofs.YtfclfmloceddfaaGreat
