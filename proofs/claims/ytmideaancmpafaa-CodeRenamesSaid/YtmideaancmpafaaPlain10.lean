/- Plain mathematics, tenth part: other names of registers. -/
import Derived.Test.YtmideaancmpafaaPlain9
set_option linter.unusedVariables false
set_option linter.unusedSimpArgs false
namespace Tinker

/-- Which registers the first k numbers name. -/
def seenAt (to : List Int) : Nat → List Bool
  | 0 => [false, false, false, false]
  | k + 1 => (seenAt to k).set (to.getD k 0).toNat true
def okAt (to : List Int) (k : Nat) : Bool := isReg (to.getD k 0) && !((seenAt to k).getD (to.getD k 0).toNat false)
/-- Whether a list has each register once. -/
def isOrd (to : List Int) : Bool := to.length == 4 && (List.range 4).all (okAt to)
theorem seenAt_length (to : List Int) : ∀ k, (seenAt to k).length = 4
  | 0 => rfl
  | k + 1 => by unfold seenAt; rw [List.length_set]; exact seenAt_length to k
theorem isOrd_len {to : List Int} (h : isOrd to = true) : to.length = 4 := by unfold isOrd at h; simp at h; exact h.1
theorem isOrd_ok {to : List Int} (h : isOrd to = true) {k : Nat} (hk : k < 4) : okAt to k = true := by
  unfold isOrd at h
  rw [Bool.and_eq_true] at h
  exact List.all_eq_true.1 h.2 k (List.mem_range.2 hk)
theorem isOrd_reg {to : List Int} (h : isOrd to = true) {k : Nat} (hk : k < 4) : 0 ≤ to.getD k 0 ∧ to.getD k 0 ≤ 3 := by
  have := isOrd_ok h hk
  unfold okAt at this
  rw [Bool.and_eq_true] at this
  exact isReg_iff.1 this.1
theorem seenAt_get {to : List Int} (h : isOrd to = true) : ∀ {k j : Nat}, k ≤ 4 → j < k → (seenAt to k).getD (to.getD j 0).toNat false = true
  | k + 1, j, hk, hj => by
    unfold seenAt
    have hr := isOrd_reg h (show k < 4 by omega)
    rw [getD_set _ _ _ _ _ (by rw [seenAt_length]; omega)]
    split
    · rfl
    · rcases Nat.lt_or_ge j k with h1 | h1
      · exact seenAt_get h (by omega) h1
      · have : j = k := by omega
        subst this
        rename_i hne
        exact absurd rfl hne
theorem isOrd_ne {to : List Int} (h : isOrd to = true) {j k : Nat} (hk : k < 4) (hj : j < k) : (to.getD j 0).toNat ≠ (to.getD k 0).toNat := fun e => by
  have h1 := isOrd_ok h hk
  have h2 := seenAt_get h (show k ≤ 4 by omega) hj
  unfold okAt at h1
  rw [e] at h2
  rw [h2] at h1
  simp at h1
theorem isOrd_inj {to : List Int} (h : isOrd to = true) {j k : Nat} (hj : j < 4) (hk : k < 4) (e : (to.getD j 0).toNat = (to.getD k 0).toNat) : j = k := by
  rcases Nat.lt_trichotomy j k with h1 | h1 | h1
  · exact absurd e (isOrd_ne h hk h1)
  · exact h1
  · exact absurd e.symm (isOrd_ne h hj h1)
theorem pigeon : ∀ a b c d k : Fin 4, a ≠ b → a ≠ c → a ≠ d → b ≠ c → b ≠ d → c ≠ d → a = k ∨ b = k ∨ c = k ∨ d = k := by decide +kernel
theorem isOrd_sur {to : List Int} (h : isOrd to = true) {k : Nat} (hk : k < 4) : ∃ r, r < 4 ∧ (to.getD r 0).toNat = k := by
  have r0 := isOrd_reg h (show 0 < 4 by omega)
  have r1 := isOrd_reg h (show 1 < 4 by omega)
  have r2 := isOrd_reg h (show 2 < 4 by omega)
  have r3 := isOrd_reg h (show 3 < 4 by omega)
  have n01 := isOrd_ne h (show 1 < 4 by omega) (show 0 < 1 by omega)
  have n02 := isOrd_ne h (show 2 < 4 by omega) (show 0 < 2 by omega)
  have n03 := isOrd_ne h (show 3 < 4 by omega) (show 0 < 3 by omega)
  have n12 := isOrd_ne h (show 2 < 4 by omega) (show 1 < 2 by omega)
  have n13 := isOrd_ne h (show 3 < 4 by omega) (show 1 < 3 by omega)
  have n23 := isOrd_ne h (show 3 < 4 by omega) (show 2 < 3 by omega)
  have p := pigeon ⟨(to.getD 0 0).toNat, by omega⟩ ⟨(to.getD 1 0).toNat, by omega⟩ ⟨(to.getD 2 0).toNat, by omega⟩ ⟨(to.getD 3 0).toNat, by omega⟩ ⟨k, hk⟩
    (fun e => n01 (congrArg Fin.val e)) (fun e => n02 (congrArg Fin.val e)) (fun e => n03 (congrArg Fin.val e)) (fun e => n12 (congrArg Fin.val e)) (fun e => n13 (congrArg Fin.val e)) (fun e => n23 (congrArg Fin.val e))
  rcases p with e | e | e | e
  · exact ⟨0, by omega, congrArg Fin.val e⟩
  · exact ⟨1, by omega, congrArg Fin.val e⟩
  · exact ⟨2, by omega, congrArg Fin.val e⟩
  · exact ⟨3, by omega, congrArg Fin.val e⟩

/-- The first k registers moved. -/
def mvTo (to s : List Int) : Nat → List Int
  | 0 => [0, 0, 0, 0]
  | k + 1 => (mvTo to s k).set (to.getD k 0).toNat (s.getD k 0)
def mv (to s : List Int) : List Int := mvTo to s 4
theorem mvTo_length (to s : List Int) : ∀ k, (mvTo to s k).length = 4
  | 0 => rfl
  | k + 1 => by unfold mvTo; rw [List.length_set]; exact mvTo_length to s k
theorem mv_length (to s : List Int) : (mv to s).length = 4 := mvTo_length to s 4
theorem mvTo_get {to s : List Int} (h : isOrd to = true) : ∀ {k j : Nat}, k ≤ 4 → j < k → (mvTo to s k).getD (to.getD j 0).toNat 0 = s.getD j 0
  | k + 1, j, hk, hj => by
    unfold mvTo
    have hr := isOrd_reg h (show k < 4 by omega)
    rw [getD_set _ _ _ _ _ (by rw [mvTo_length]; omega)]
    split
    · rename_i e
      rw [isOrd_inj h (show k < 4 by omega) (show j < 4 by omega) e]
    · rename_i hne
      rcases Nat.lt_or_ge j k with h1 | h1
      · exact mvTo_get h (by omega) h1
      · have : j = k := by omega
        subst this
        exact absurd rfl hne
theorem mv_get {to s : List Int} (h : isOrd to = true) {r : Nat} (hr : r < 4) : (mv to s).getD (to.getD r 0).toNat 0 = s.getD r 0 := mvTo_get h (Nat.le_refl _) hr
theorem ext4 {to s t : List Int} (h : isOrd to = true) (hs : s.length = 4) (ht : t.length = 4) (he : ∀ r, r < 4 → s.getD (to.getD r 0).toNat 0 = t.getD (to.getD r 0).toNat 0) : s = t := by
  refine List.ext_getElem? fun k => ?_
  rcases Nat.lt_or_ge k 4 with hk | hk
  · obtain ⟨r, hr, e⟩ := isOrd_sur h hk
    have := he r hr
    rw [e] at this
    obtain ⟨x, hx⟩ := get_of_lt (show k < s.length by omega)
    obtain ⟨y, hy⟩ := get_of_lt (show k < t.length by omega)
    rw [getD_of_get hx, getD_of_get hy] at this
    rw [hx, hy, this]
  · rw [List.getElem?_eq_none (by omega), List.getElem?_eq_none (by omega)]
theorem mv_set {to s : List Int} (h : isOrd to = true) (hs : s.length = 4) {r : Nat} (hr : r < 4) (v : Int) : mv to (s.set r v) = (mv to s).set (to.getD r 0).toNat v := by
  have hreg := isOrd_reg h hr
  refine ext4 h (mv_length _ _) (by rw [List.length_set]; exact mv_length _ _) fun k hk => ?_
  rw [mv_get h hk, getD_set _ _ _ _ _ (by omega), getD_set _ _ _ _ _ (by rw [mv_length]; omega), mv_get h hk]
  by_cases e : r = k
  · subst e; rw [if_pos rfl, if_pos rfl]
  · rw [if_neg e, if_neg (fun e2 => e (isOrd_inj h hr hk e2))]

/-- A line with other registers. -/
def renL (to : List Int) (l : L) : L := ⟨l.op, if wr l then to.getD l.to.toNat 0 else l.to, if 2 ≤ l.op then to.getD l.a.toNat 0 else l.a, if 3 ≤ l.op then to.getD l.b.toNat 0 else l.b⟩
theorem renL_wr (to : List Int) (l : L) : wr (renL to l) = wr l := rfl
theorem ren_a {to : List Int} (h : isOrd to = true) {s : List Int} {l : L} (hl : isLn l = true) (h2 : 2 ≤ l.op) : rg (mv to s) (renL to l).a = rg s l.a := by
  have ha := isLn_a hl h2
  unfold renL; simp only; rw [if_pos h2]
  unfold rg
  exact mv_get h (by omega)
theorem ren_b {to : List Int} (h : isOrd to = true) {s : List Int} {l : L} (hl : isLn l = true) (h3 : 3 ≤ l.op) : rg (mv to s) (renL to l).b = rg s l.b := by
  have hb := isLn_b hl h3
  unfold renL; simp only; rw [if_pos h3]
  unfold rg
  exact mv_get h (by omega)
theorem ren_val {to : List Int} (h : isOrd to = true) {s : List Int} {l : L} (hl : isLn l = true) (hw : wr l = true) : Tinker.valOf (renL to l) (mv to s) = Tinker.valOf l s := by
  have h0 := wr_op8.1 hw
  have h7 := isLn_op hl
  unfold Tinker.valOf
  have eo : (renL to l).op = l.op := rfl
  rw [eo]
  by_cases e1 : l.op = 1
  · rw [if_pos e1, if_pos e1]
    unfold renL; simp only; rw [if_neg (by omega)]
  · rw [if_neg e1, if_neg e1, ren_a h hl (by omega)]
    by_cases e2 : l.op = 2
    · rw [if_pos e2, if_pos e2]
    · rw [if_neg e2, if_neg e2, ren_b h hl (by omega)]
theorem ren_skips {to : List Int} (h : isOrd to = true) {s : List Int} {l : L} (hl : isLn l = true) : skips (renL to l) (mv to s) = skips l s := by
  unfold skips
  have eo : (renL to l).op = l.op := rfl
  rw [eo]
  by_cases e : l.op = 7
  · rw [ren_a h hl (by omega), ren_b h hl (by omega)]
  · have : (l.op == 7) = false := by simpa using e
    rw [this]; rfl
theorem ren_nxt {to : List Int} (h : isOrd to = true) {s : List Int} {l : L} (hl : isLn l = true) (i : Nat) : nxt (renL to l) (mv to s) i = nxt l s i := by
  unfold nxt
  rw [ren_skips h hl]
  split
  · rename_i hsk
    have h7 : l.op = 7 := by unfold skips at hsk; simp at hsk; exact hsk.1
    have hw : wr l = false := by unfold wr; rw [h7]; rfl
    unfold renL; simp only; rw [if_neg (by rw [hw]; simp)]
  · rfl
theorem ren_stp {to : List Int} (h : isOrd to = true) {s : List Int} (hs : s.length = 4) {l : L} (hl : isLn l = true) : stp (renL to l) (mv to s) none = mv to (stp l s none) := by
  unfold stp
  rw [renL_wr]
  split
  · rename_i hw
    have hto := wr_to hl hw
    rw [mv_set h hs (show l.to.toNat < 4 by omega), ren_val h hl hw]
    unfold renL; simp only; rw [if_pos hw]
  · rfl
theorem tr_ren {to : List Int} (h : isOrd to = true) {p : List L} (hv : ∀ l ∈ p, isLn l = true) : ∀ (n i : Nat) (s : List Int), p.length - i ≤ n → s.length = 4 → (tr (p.map (renL to)) noF i (mv to s)).2 = mv to (tr p noF i s).2
  | n, i, s, hn, hs => by
    rcases Nat.lt_or_ge i p.length with hi | hi
    · match n, hn with
      | 0, hn => omega
      | n + 1, hn =>
      obtain ⟨l, hl⟩ := get_of_lt hi
      have hg := nxt_gt l s i
      have hl2 : (p.map (renL to))[i]? = some (renL to l) := by rw [List.getElem?_map, hl]; rfl
      have hli := hv l (mem_of_get hl)
      rw [tr_lt hl, tr_lt hl2]
      show (tr (p.map (renL to)) noF (nxt (renL to l) (mv to s) i) (stp (renL to l) (mv to s) none)).2 = mv to (tr p noF (nxt l s i) (stp l s none)).2
      rw [ren_nxt h hli, ren_stp h hs hli]
      exact tr_ren h hv n _ _ (by omega) (by rw [stp_length, hs])
    · rw [tr_ge hi, tr_ge (by simpa using hi)]
theorem runE_ren {to : List Int} (h : isOrd to = true) {p : List L} (hv : ∀ l ∈ p, isLn l = true) {s : List Int} (hs : s.length = 4) : runE (p.map (renL to)) (mv to s) = mv to (runE p s) := tr_ren h hv _ 0 s (Nat.le_refl _) hs
theorem isLn_ren {to : List Int} (h : isOrd to = true) {l : L} (hl : isLn l = true) : isLn (renL to l) = true := by
  have h7 := isLn_op hl
  have rt : wr l = true → isReg (renL to l).to = true := fun hw => by
    have := wr_to hl hw
    unfold renL; simp only; rw [if_pos hw]; exact isReg_iff.2 (isOrd_reg h (by omega))
  have ra : 2 ≤ l.op → isReg (renL to l).a = true := fun h2 => by
    have := isLn_a hl h2
    unfold renL; simp only; rw [if_pos h2]; exact isReg_iff.2 (isOrd_reg h (by omega))
  have rb : 3 ≤ l.op → isReg (renL to l).b = true := fun h3 => by
    have := isLn_b hl h3
    unfold renL; simp only; rw [if_pos h3]; exact isReg_iff.2 (isOrd_reg h (by omega))
  have nt : wr l = false → (renL to l).to = l.to := fun hw => by unfold renL; simp only; rw [if_neg (by rw [hw]; simp)]
  have na : l.op < 2 → (renL to l).a = l.a := fun h2 => by unfold renL; simp only; rw [if_neg (by omega)]
  have nb : l.op < 3 → (renL to l).b = l.b := fun h2 => by unfold renL; simp only; rw [if_neg (by omega)]
  have eo : (renL to l).op = l.op := rfl
  have hwr : l.op ≠ 0 → l.op ≠ 7 → wr l = true := fun x y => wr_op8.2 ⟨x, y⟩
  unfold isLn at hl ⊢
  rw [eo]
  split at hl
  · rename_i h0
    have hw : wr l = false := by unfold wr; rw [h0]; rfl
    rw [if_pos h0, nt hw, na (by omega), nb (by omega)]; exact hl
  · rename_i h0
    rw [if_neg h0]
    split at hl
    · rename_i h1
      rw [if_pos h1, rt (hwr (by omega) (by omega)), na (by omega), nb (by omega)]
      simp only [Bool.and_eq_true] at hl ⊢
      exact ⟨⟨trivial, hl.1.2⟩, hl.2⟩
    · rename_i h1
      rw [if_neg h1]
      split at hl
      · rename_i h2
        rw [if_pos h2, rt (hwr (by omega) (by omega)), ra (by omega), nb (by omega)]
        simp only [Bool.and_eq_true] at hl ⊢
        exact ⟨⟨trivial, trivial⟩, hl.2⟩
      · rename_i h2
        rw [if_neg h2]
        split at hl
        · rename_i h3
          rw [if_pos h3, rt (hwr (by omega) (by omega)), ra (by omega), rb (by omega)]; rfl
        · rename_i h3
          rw [if_neg h3]
          split at hl
          · rename_i h7'
            have hw : wr l = false := by unfold wr; rw [h7']; rfl
            rw [if_pos h7', ra (by omega), rb (by omega), nt hw]
            simp only [Bool.and_eq_true] at hl ⊢
            exact ⟨⟨hl.1.1, trivial⟩, trivial⟩
          · cases hl
theorem vp_ren {to : List Int} (h : isOrd to = true) {p : List L} (hp : vp p = 0) : vp (p.map (renL to)) = 0 := by
  obtain ⟨h1, h2⟩ := vp_ok hp
  refine vp_ok' (by simpa using h1) fun l hl => ?_
  obtain ⟨m, hm, rfl⟩ := List.mem_map.1 hl
  exact isLn_ren h (h2 m hm)
theorem vs_mv {to s : List Int} (h : isOrd to = true) (hs : vs s = 0) : vs (mv to s) = 0 := by
  obtain ⟨h1, h2⟩ := vs_ok hs
  refine vs_ok' (mv_length _ _) fun n hn => ?_
  obtain ⟨k, hk⟩ := List.mem_iff_getElem?.1 hn
  have hk4 : k < 4 := by have := (List.getElem?_eq_some_iff.1 hk).1; rwa [mv_length] at this
  obtain ⟨r, hr, e⟩ := isOrd_sur h hk4
  have := mv_get (s := s) h hr
  rw [e, getD_of_get hk] at this
  obtain ⟨x, hx⟩ := get_of_lt (show r < s.length by omega)
  rw [getD_of_get hx] at this
  subst this
  exact h2 _ (mem_of_get hx)
theorem vr_ren {to s : List Int} (h : isOrd to = true) {p : List L} (hp : vp p = 0) (hs : vs s = 0) : vr (p.map (renL to)) (mv to s) = 0 := by
  unfold vr fe; rw [if_pos (vp_ren h hp)]; exact vs_mv h hs

end Tinker
