/- Run, Done of the document's answers; Before of both: contracts. -/
import Derived.Test.YtikblaebfpdngaaGreatTrB
set_option linter.unusedVariables false
set_option linter.unusedSimpArgs false
namespace Go.Proofs.YtikblaebfpdngaaGreat
open Go.RowKit Tinker

/-- A slice of numbers in memory, and a code. -/
def GivesR (zs : List Int) (c : Int) (w : World) (e : Ending) (w' : World) : Prop :=
  ∃ a cap, e = .returned (.tuple #[.slice a zs.length cap, .int .i64 c]) ∧ IntsAt w' a zs ∧ Below w.heap.size w w'
theorem givesR_nil {c : Int} {w w' : World} (hB : Below w.heap.size w w') : GivesR [] c w (.returned (.tuple #[.slice none 0 0, .int .i64 c])) w' := ⟨none, 0, rfl, .inl rfl, hB⟩
theorem GivesIntsE.weak {zs : List Int} {c : Int} {w : World} {e : Ending} {w' : World} (h : GivesIntsE zs c w e w') : GivesR zs c w e w' := by
  obtain ⟨a, cap, he, ho, hb⟩ := h
  exact ⟨a, cap, he, (ints_of_own ho).1, hb⟩

theorem runS_lt {ps : List L} {s : List Int} : ∀ x ∈ runS ps s, x.1 < ps.length := fun x hx => (tr_from ps noF _ 0 s (Nat.le_refl _) x hx).2
theorem runS_asc {ps : List L} {s : List Int} : asc (runS ps s) := tr_asc ps noF _ 0 s (Nat.le_refl _)
theorem runS_ok {ps : List L} {s : List Int} (h : vr ps s = 0) : ∀ x ∈ runS ps s, okS x.2 := (tr_ok (okF_no ps) _ 0 s (Nat.le_refl _) (vs_ok (vr_ok h).2)).2
theorem asc_length : ∀ (n : Nat) (st : List (Nat × List Int)), asc st → ∀ m, (∀ x ∈ st, m ≤ x.1 ∧ x.1 < m + n) → st.length ≤ n
  | 0, [], _, _, _ => Nat.le_refl _
  | 0, x :: r, _, m, h => by have := h x (by simp); omega
  | n + 1, [], _, _, _ => Nat.zero_le _
  | n + 1, x :: r, ha, m, h => by
    have ha' := List.pairwise_cons.1 ha
    have := asc_length n r ha'.2 (m + 1) fun y hy => by
      have h1 := ha'.1 y hy
      have h2 := h y (List.mem_cons_of_mem _ hy)
      have h3 := h x (by simp)
      omega
    simp; omega
theorem runS_len {ps : List L} {s : List Int} : (runS ps s).length ≤ ps.length := asc_length _ _ runS_asc 0 fun x hx => by have := runS_lt x hx; omega

theorem trace_no (a b : Option Addr) (ca cb : Nat) (ps : List L) (s : List Int) (w : World) (hp : LinesAt w a ps) (hs : IntsAt w b s) (h : vr ps s = 0) :
    Calls Tryz.prog 167 #[.slice a ps.length ca, .slice b s.length cb, .slice none 0 0, .slice none 0 0] w (GivesTrace (runS ps s) (runE ps s) w) := by
  obtain ⟨h1, h2⟩ := vr_ok h
  obtain ⟨h3, h4⟩ := vp_ok h1
  have hok := vs_ok h2
  have c := trace_any a b none none ca cb 0 0 ps s [] [] w hp hs (.inl rfl) (.inl rfl) h3 h4 hok rfl (by simp) (by simp)
  rw [fL_nil] at c
  rw [hok.1]
  exact c

set_option maxRecDepth 100000 in
set_option maxHeartbeats 400000 in
theorem rRun_any (a b : Option Addr) (ca cb : Nat) (ps : List L) (s : List Int) (w : World) (hp : LinesAt w a ps) (hs : IntsAt w b s) :
    Calls Tryz.prog 157 #[.slice a ps.length ca, .slice b s.length cb] w (GivesR (runL ps s) (vr ps s) w) := by
  have HV := Lib.hid (asked_any a b ca cb ps s w hp hs)
  by_cases hz : vr ps s = 0
  · have hrl : runL ps s = runE ps s := by unfold runL; rw [if_pos hz]
    have H4 := Lib.hid (runE_ok hz).1
    rw [hrl]
    clear hrl
    have HT := Lib.hid (fun w hp hs => trace_no a b ca cb ps s w hp hs hz)
    have HZ := Lib.hid hz
    clear hz
    go_enter Tryz.func157, Tryz.ntmps157
    go_wp2_with fail
    refine HV.out.mono ?_
    rintro e w1 ⟨rfl, hB1⟩
    rw [HZ.out]
    go_wp2_with fail
    refine (HT.out _ (hp.below hB1 (Nat.le_refl _)) (hs.below hB1 (Nat.le_refl _))).mono ?_
    intro e w2 hG
    obtain ⟨a1, c1, b1, cb1, rfl, _, hbi, _, hB2⟩ := hG
    have hB3 := hB1.trans (hB2.mono hB1.size)
    go_wp2_with fail
    go_ret2
    exact ⟨_, _, by rw [H4.out, HZ.out]; rfl, hbi.at_, hB3⟩
  · have hrl : runL ps s = [] := by unfold runL; rw [if_neg hz]
    rw [hrl]
    clear hrl
    generalize vr ps s = c at *
    have hz1 : (c != 0) = true := by simpa using hz
    have hz2 : (c == 0) = false := by simpa using hz
    clear hz hp hs
    go_enter Tryz.func157, Tryz.ntmps157
    go_wp2_with fail
    refine HV.out.mono ?_
    rintro e w1 ⟨rfl, hB1⟩
    go_wp2_with fail
    go_ret2
    exact givesR_nil hB1

theorem linesOf_snoc {st : List (Nat × List Int)} {k i : Nat} {s : List Int} (h : st[k]? = some (i, s)) : linesOf (st.take (k + 1)) = linesOf (st.take k) ++ [(i : Int)] := by
  rw [take_snoc h]; simp [linesOf]

end Go.Proofs.YtikblaebfpdngaaGreat
