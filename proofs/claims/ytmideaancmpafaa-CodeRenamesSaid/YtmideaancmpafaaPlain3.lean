/- Plain mathematics, third part: how a program runs. -/
import Derived.Test.YtmideaancmpafaaPlain2
set_option linter.unusedVariables false
set_option linter.unusedSimpArgs false
namespace Tinker

def nxt (l : L) (s : List Int) (i : Nat) : Nat := if skips l s then i + 1 + l.to.toNat else i + 1
def stp (l : L) (s : List Int) (o : Option Int) : List Int := if wr l then s.set l.to.toNat (o.getD (cutv (valOf l s))) else s

/-- The lines that are done, from the line i and the state s on, each with the state before it; and the state at the end. f: what lines are forced to write. -/
def tr (p : List L) (f : Nat → Option Int) (i : Nat) (s : List Int) : List (Nat × List Int) × List Int :=
  if h : i < p.length then
    let r := tr p f (nxt p[i] s i) (stp p[i] s (f i))
    ((i, s) :: r.1, r.2)
  else ([], s)
termination_by p.length - i
decreasing_by unfold nxt; split <;> omega

theorem nxt_gt (l : L) (s : List Int) (i : Nat) : i < nxt l s i := by unfold nxt; split <;> omega
theorem tr_lt {p : List L} {f : Nat → Option Int} {i : Nat} {s : List Int} {l : L} (h : p[i]? = some l) :
    tr p f i s = ((i, s) :: (tr p f (nxt l s i) (stp l s (f i))).1, (tr p f (nxt l s i) (stp l s (f i))).2) := by
  obtain ⟨hi, rfl⟩ := List.getElem?_eq_some_iff.1 h
  rw [tr, dif_pos hi]
theorem tr_ge {p : List L} {f : Nat → Option Int} {i : Nat} {s : List Int} (h : p.length ≤ i) : tr p f i s = ([], s) := by
  rw [tr, dif_neg (by omega)]

theorem stp_length (l : L) (s : List Int) (o : Option Int) : (stp l s o).length = s.length := by unfold stp; split <;> simp

/-- All numbers of a state are within the bounds. -/
def okS (s : List Int) : Prop := s.length = 4 ∧ ∀ n ∈ s, -999 ≤ n ∧ n ≤ 999
/-- What forced lines write is within the bounds, and only lines that write are forced. -/
def okF (p : List L) (f : Nat → Option Int) : Prop := ∀ i n, f i = some n → (-999 ≤ n ∧ n ≤ 999) ∧ ∀ l, p[i]? = some l → wr l = true

theorem okS_rg {s : List Int} (h : okS s) (n : Int) : -999 ≤ rg s n ∧ rg s n ≤ 999 := by
  unfold rg
  rw [List.getD_eq_getElem?_getD]
  cases hq : s[n.toNat]? with
  | none => simp
  | some x => simpa using h.2 x (List.mem_of_getElem? hq)
theorem okS_stp {l : L} {s : List Int} {o : Option Int} (h : okS s) (ho : ∀ n, o = some n → -999 ≤ n ∧ n ≤ 999) : okS (stp l s o) := by
  refine ⟨by rw [stp_length, h.1], ?_⟩
  unfold stp
  split
  · intro n hn
    rcases List.mem_or_eq_of_mem_set hn with h1 | h1
    · exact h.2 n h1
    · subst h1
      cases o with
      | none => exact cutv_bd _
      | some x => exact ho x rfl
  · exact h.2

/-- The lines that are done, as bools. -/
def doneL (st : List (Nat × List Int)) : List Bool := st.foldl (fun d x => d.set x.1 true) (List.replicate 8 false)
/-- Four numbers in the place of those from 4 i on. -/
def put4 (d : List Int) (i : Nat) (s : List Int) : List Int := (((d.set (i * 4) (s.getD 0 0)).set (i * 4 + 1) (s.getD 1 0)).set (i * 4 + 2) (s.getD 2 0)).set (i * 4 + 3) (s.getD 3 0)
/-- The states before the lines that are done. -/
def befL (st : List (Nat × List Int)) : List Int := st.foldl (fun d x => put4 d x.1 x.2) (List.replicate 32 0)

theorem doneL_snoc (st : List (Nat × List Int)) (i : Nat) (s : List Int) : doneL (st ++ [(i, s)]) = (doneL st).set i true := by simp [doneL, List.foldl_append]
theorem befL_snoc (st : List (Nat × List Int)) (i : Nat) (s : List Int) : befL (st ++ [(i, s)]) = put4 (befL st) i s := by simp [befL, List.foldl_append]
theorem foldl_set_length : ∀ (st : List (Nat × List Int)) (d : List Bool), (st.foldl (fun d x => d.set x.1 true) d).length = d.length
  | [], d => rfl
  | x :: r, d => by rw [List.foldl_cons, foldl_set_length r]; simp
theorem doneL_length (st : List (Nat × List Int)) : (doneL st).length = 8 := by unfold doneL; rw [foldl_set_length]; simp
theorem put4_length (d : List Int) (i : Nat) (s : List Int) : (put4 d i s).length = d.length := by simp [put4]
theorem foldl_put_length : ∀ (st : List (Nat × List Int)) (d : List Int), (st.foldl (fun d x => put4 d x.1 x.2) d).length = d.length
  | [], d => rfl
  | x :: r, d => by rw [List.foldl_cons, foldl_put_length r, put4_length]
theorem befL_length (st : List (Nat × List Int)) : (befL st).length = 32 := by unfold befL; rw [foldl_put_length]; simp

/-- The lines that are done come in ascending order, from i on, and are lines of the program. -/
theorem tr_from (p : List L) (f : Nat → Option Int) : ∀ (n i : Nat) (s : List Int), p.length - i ≤ n → ∀ x ∈ (tr p f i s).1, i ≤ x.1 ∧ x.1 < p.length
  | 0, i, s, h, x, hx => by rw [tr_ge (by omega)] at hx; simp at hx
  | n + 1, i, s, h, x, hx => by
    rcases Nat.lt_or_ge i p.length with hi | hi
    · obtain ⟨l, hl⟩ := get_of_lt hi
      rw [tr_lt hl] at hx
      rcases List.mem_cons.1 hx with rfl | hx
      · exact ⟨Nat.le_refl _, hi⟩
      · have hg := nxt_gt l s i
        have := tr_from p f n _ _ (by omega) x hx
        exact ⟨by omega, this.2⟩
    · rw [tr_ge hi] at hx; simp at hx
/-- The state at the end, and each state on the way, is within the bounds. -/
theorem tr_ok {p : List L} {f : Nat → Option Int} (hf : okF p f) : ∀ (n i : Nat) (s : List Int), p.length - i ≤ n → okS s → okS (tr p f i s).2 ∧ ∀ x ∈ (tr p f i s).1, okS x.2
  | 0, i, s, h, hs => by rw [tr_ge (by omega)]; exact ⟨hs, by simp⟩
  | n + 1, i, s, h, hs => by
    rcases Nat.lt_or_ge i p.length with hi | hi
    · obtain ⟨l, hl⟩ := get_of_lt hi
      have hg := nxt_gt l s i
      have ih := tr_ok hf n (nxt l s i) (stp l s (f i)) (by omega) (okS_stp hs fun m hm => (hf i m hm).1)
      rw [tr_lt hl]
      refine ⟨ih.1, fun x hx => ?_⟩
      rcases List.mem_cons.1 hx with rfl | hx
      · exact hs
      · exact ih.2 x hx
    · rw [tr_ge hi]; exact ⟨hs, by simp⟩

/-- Nothing is forced. -/
def noF : Nat → Option Int := fun _ => none
theorem okF_no (p : List L) : okF p noF := fun i n h => by cases h
/-- The state at the end of a run. -/
def runE (p : List L) (s : List Int) : List Int := (tr p noF 0 s).2
/-- The steps of a run. -/
def runS (p : List L) (s : List Int) : List (Nat × List Int) := (tr p noF 0 s).1

end Tinker
