/- TopCodes: facts on programs without what is outside a slice, exchanged twice, renamed. -/
import Derived.Test.YtmideaancmpafacHas
import Derived.Test.YtmideaancmpafacPlain
import Derived.Test.YtmideaancmpafacExB
import Derived.Test.YtmideaancmpafacRenB
import Derived.Test.YtmideaancmpafacRenC
import Derived.Test.YtmideaancmpafacForC
import Derived.Test.YtmideaancmpafacRuns
import Derived.Test.YtmideaancmpafacSlcs
import Derived.Test.YtmideaancmpafacExs
import Derived.Test.YtmideaancmpafacRns
set_option linter.unusedVariables false
set_option linter.unusedSimpArgs false
namespace Go.Proofs.Ytmideaancmpafac
open Go.RowKit Tinker

def topR (S : List Int) (i : Nat) : Bool := !hasB S (i : Int)
/-- The program of which the first k lines are looked at. -/
def lessT (ps : List L) (S : List Int) (k : Nat) : List L := lessP ps (topR S) k
theorem lessT_vp {ps : List L} (h : vp ps = 0) (S : List Int) (k : Nat) : vp (lessT ps S k) = 0 :=
  vp_ok' (by unfold lessT; rw [lessP_length]; exact (vp_ok h).1) (lessP_valid (vp_ok h).2 k)
theorem lessT_len (ps : List L) (S : List Int) (k : Nat) : (lessT ps S k).length = ps.length := lessP_length _ _ _
theorem lessT_put {ps : List L} {S : List Int} {k : Nat} {l : L} (hv : vp ps = 0) (hl : ps[k]? = some l) (hw : Tinker.wr l = true) (hs : hasB S (k : Int) = false) : putC (lessT ps S k) (k : Int) zL = 0 ∧ putP (lessT ps S k) (k : Int) zL = lessT ps S (k + 1) := by
  have hk := (List.getElem?_eq_some_iff.1 hl).1
  have h1 : putC (lessT ps S k) (k : Int) zL = 0 := by
    unfold putC
    have e : fe (vp (lessT ps S k)) (vl zL) = 0 := by rw [lessT_vp hv]; decide
    rw [if_pos e, if_pos (btw_true.2 (by rw [lessT_len]; omega))]
  refine ⟨h1, ?_⟩
  unfold putP
  rw [if_pos h1, Int.toNat_natCast]
  have hc : (Tinker.wr (ps.getD k ⟨0, 0, 0, 0⟩) && topR S k) = true := by rw [getD_of_get hl, hw]; unfold topR; rw [hs]; rfl
  unfold lessT
  rw [lessP, if_pos hc]
theorem lessT_stay {ps : List L} {S : List Int} {k : Nat} {l : L} (hl : ps[k]? = some l) (h : Tinker.wr l = false ∨ hasB S (k : Int) = true) : lessT ps S (k + 1) = lessT ps S k := by
  have hc : (Tinker.wr (ps.getD k ⟨0, 0, 0, 0⟩) && topR S k) = false := by
    rw [getD_of_get hl]
    rcases h with h | h
    · rw [h]; rfl
    · unfold topR; rw [h]; simp
  unfold lessT
  rw [lessP, if_neg (by rw [hc]; simp)]

theorem top_less {p : List L} {s : List Int} {r : Int} (hc : slCode p s r = 0) :
    vr (lessT p (slA p s r) p.length) s = 0 ∧ slCode (lessT p (slA p s r) p.length) s r = 0 ∧ slA (lessT p (slA p s r) p.length) s r = slA p s r ∧
    (runL p s).getD r.toNat 0 = (runL (lessT p (slA p s r) p.length) s).getD r.toNat 0 := by
  obtain ⟨hz, hr⟩ := slCode_ok hc
  obtain ⟨h8, hv⟩ := vp_ok (vr_ok hz).1
  obtain ⟨h4, _⟩ := vs_ok (vr_ok hz).2
  have hr' := isReg_iff.1 hr
  have hz2 : vr (lessT p (slA p s r) p.length) s = 0 := by unfold vr fe; rw [if_pos (lessT_vp (vr_ok hz).1 _ _)]; exact (vr_ok hz).2
  have hc2 : slCode (lessT p (slA p s r) p.length) s r = 0 := by unfold slCode; rw [if_pos hz2, hr]; rfl
  have e0 := slA_eq hc h8
  generalize slA p s r = S at hz2 hc2 e0 ⊢
  have L := less_run (p := p) (q := lessT p S p.length) (r := r.toNat) (R := fun i => ∃ l, p[i]? = some l ∧ (Tinker.wr l && topR S i) = true) hv (by omega) (lessT_len _ _ _)
    (fun i l hl => by
      have hi := (List.getElem?_eq_some_iff.1 hl).1
      have g := lessP_get p (topR S) p.length i l hl
      by_cases h : (Tinker.wr l && topR S i) = true
      · left
        refine ⟨⟨l, hl, h⟩, ?_, ?_⟩
        · rw [Bool.and_eq_true] at h; exact h.1
        · rw [if_pos ⟨hi, h⟩] at g; exact g
      · right
        refine ⟨?_, ?_⟩
        · rintro ⟨m, hm, hx⟩
          rw [hl] at hm
          injection hm with hm
          subst hm
          exact h hx
        · rw [if_neg (fun x => h x.2)] at g; exact g)
    _ 0 s s (Nat.le_refl _) h4 h4 (fun k _ => rfl)
    (fun j hj => by
      obtain ⟨l, hl, h⟩ := hj
      cases hq : ((tr p noF 0 s).1.foldr (stR p) (slR0 p.length r.toNat)).2.getD j false
      · rfl
      · exfalso
        have h2 := mem_plc hq
        rw [Bool.and_eq_true] at h
        have h3 := h.2
        unfold topR at h3
        rw [e0] at h3
        unfold runS at h3
        rw [h2] at h3
        cases h3)
  refine ⟨hz2, hc2, ?_, ?_⟩
  · rw [slA_eq hc2 (by rw [lessT_len]; exact h8)]
    unfold runS at e0 ⊢
    rw [L.2, e0]
  · unfold runL
    rw [if_pos hz, if_pos hz2]
    exact L.1
/-- What is in the slice is done. -/
theorem slice_done {p : List L} {s : List Int} {r : Int} (hc : slCode p s r = 0) {i : Nat} (h : hasB (slA p s r) (i : Int) = true) : hasB (doneA p s) (i : Int) = true := by
  obtain ⟨hz, hr⟩ := slCode_ok hc
  obtain ⟨h8, hv⟩ := vp_ok (vr_ok hz).1
  rw [slA_eq hc h8] at h
  obtain ⟨j, e, _, hj⟩ := plc_mem h
  have hij : i = j := by omega
  subst hij
  obtain ⟨x, hx, e2⟩ := foldrSR_mem hj
  have hd : doneA p s = linesOf (runS p s) := by unfold doneA; rw [if_pos hz]; exact plc_done runS_asc fun x hx => by have := runS_lt x hx; omega
  rw [hd]
  unfold hasB linesOf
  rw [List.any_eq_true]
  exact ⟨(x.1 : Int), List.mem_map.2 ⟨x, hx, rfl⟩, by rw [e2]; simp⟩
/-- Exchanged twice is as before. -/
theorem exch_twice {ps : List L} {n : Int} (h : xcC ps n = 0) : xcC (xcP ps n) n = 0 ∧ xcP (xcP ps n) n = ps := by
  obtain ⟨h1, h2⟩ := xcC_ok h
  obtain ⟨h3, h4, h5⟩ := epC_ok h1
  have e := xcP_yes h
  have hv : vp (swp ps n.toNat) = 0 := vp_ok' (by rw [swp_length]; exact (vp_ok h3).1) fun l hl => (vp_ok h3).2 l (swp_mem h5 hl)
  have e1 : epC (swp ps n.toNat) n = 0 := by
    unfold epC at h1 ⊢
    rw [if_pos hv, swp_length]
    rw [if_pos h3] at h1
    exact h1
  have e2 : ceB (swp ps n.toNat) n.toNat = true := by
    unfold ceB at h2 ⊢
    rw [Bool.and_eq_true] at h2 ⊢
    obtain ⟨a, ha⟩ := get_of_lt (show n.toNat < ps.length by omega)
    obtain ⟨b, hb⟩ := get_of_lt h5
    refine ⟨?_, ?_⟩
    · unfold skB
      rw [List.all_eq_true]
      intro i hi
      have hi' := List.mem_range.1 hi
      have hx := List.all_eq_true.1 h2.1 i hi
      have hg : (swp ps n.toNat).getD i ⟨0, 0, 0, 0⟩ = ps.getD i ⟨0, 0, 0, 0⟩ := by
        rw [List.getD_eq_getElem?_getD, List.getD_eq_getElem?_getD, swp_other (by omega) (by omega)]
      rw [hg]; exact hx
    · rw [getD_of_get (swp_0 h5), getD_of_get (swp_1 h5), getD_of_get ha, getD_of_get hb]
      have := h2.2
      rw [getD_of_get ha, getD_of_get hb] at this
      rw [indB_in] at this ⊢
      unfold inB at this ⊢
      cases h6 : (a.op != 7) <;> cases h7 : (b.op != 7) <;> cases h8 : dsB a b <;> cases h9 : dsB b a <;> simp_all
  have e3 : xcC (swp ps n.toNat) n = 0 := by unfold xcC; rw [if_pos e1, if_pos e2]
  rw [e]
  exact ⟨e3, by rw [xcP_yes e3, swp_swp h5]⟩

/-- The known forced run. -/
theorem ex_force : fC exP [0, 0, 0, 0] [0] [5] = 0 ∧ fA exP [0, 0, 0, 0] [0] [5] = [10, 0, 0, 0] := by
  have h1 : fC exP [0, 0, 0, 0] [0] [5] = 0 := by
    rw [fC_vr (exTr _ rfl (by decide))]; decide
  refine ⟨h1, ?_⟩
  rw [fA_yes h1]
  have l0 : exP[0]? = some ⟨1, 0, 3, 0⟩ := rfl
  have l1 : exP[1]? = some ⟨3, 0, 0, 0⟩ := rfl
  rw [tr_lt l0]
  show (tr exP (fL [0] [5]) 1 [5, 0, 0, 0]).2 = _
  rw [tr_lt l1]
  show (tr exP (fL [0] [5]) 2 [10, 0, 0, 0]).2 = _
  rw [tr_ge (by decide)]

end Go.Proofs.Ytmideaancmpafac
