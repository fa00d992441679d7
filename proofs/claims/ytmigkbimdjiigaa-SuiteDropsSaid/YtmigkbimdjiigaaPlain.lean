/- Several texts in one. -/
/- Plain mathematics of programs and states: no Go in it. -/
set_option linter.unusedVariables false
set_option linter.unusedSimpArgs false
namespace Tinker

/-- A line: its operation and its three numbers. -/
structure L where
  op : Int
  to : Int
  a : Int
  b : Int

def btw (n lo hi : Int) : Bool := decide (lo ≤ n) && decide (n ≤ hi)

def isReg (n : Int) : Bool := btw n 0 3

/-- Which lines are valid. -/
def isLn (l : L) : Bool :=
  if l.op = 0 then l.to == 0 && l.a == 0 && l.b == 0
  else if l.op = 1 then isReg l.to && btw l.a (-9) 9 && l.b == 0
  else if l.op = 2 then isReg l.to && isReg l.a && l.b == 0
  else if 3 ≤ l.op ∧ l.op ≤ 6 then isReg l.to && isReg l.a && isReg l.b
  else if l.op = 7 then btw l.to 1 8 && isReg l.a && isReg l.b
  else false

def wr (l : L) : Bool := l.op != 0 && l.op != 7

def cutv (n : Int) : Int := max (-999) (min n 999)

/-- The number of a register in a state. -/
def rg (s : List Int) (n : Int) : Int := s.getD n.toNat 0

/-- What a line that writes makes of a state. -/
def valOf (l : L) (s : List Int) : Int :=
  if l.op = 1 then l.a
  else if l.op = 2 then rg s l.a
  else if l.op = 3 then rg s l.a + rg s l.b
  else if l.op = 4 then rg s l.a - rg s l.b
  else if l.op = 5 then min (rg s l.a) (rg s l.b)
  else max (rg s l.a) (rg s l.b)

def skips (l : L) (s : List Int) : Bool := l.op == 7 && decide (rg s l.a < rg s l.b)

theorem btw_true' {n lo hi : Int} : btw n lo hi = true ↔ lo ≤ n ∧ n ≤ hi := by simp [btw]
/-- What a number of a line may be, by its kind. -/
def allowsK (k n : Int) : Bool := if k = 1 then isReg n else if k = 2 then btw n (-9) 9 else if k = 3 then btw n 1 8 else n == 0

/-- Which registers a valid line reads. -/
def rd (l : L) : List Bool :=
  let s := if 2 ≤ l.op then [false, false, false, false].set l.a.toNat true else [false, false, false, false]
  if 3 ≤ l.op then s.set l.b.toNat true else s

theorem rd_length (l : L) : (rd l).length = 4 := by unfold rd; split <;> split <;> simp

theorem isReg_iff {n : Int} : isReg n = true ↔ 0 ≤ n ∧ n ≤ 3 := by simp [isReg, btw]
/-- What is known of a valid line's numbers. -/
theorem isLn_op {l : L} (h : isLn l = true) : 0 ≤ l.op ∧ l.op ≤ 7 := by
  unfold isLn at h
  split at h <;> (try omega)
  split at h <;> (try omega)
  split at h <;> (try omega)
  split at h <;> (try omega)
  split at h <;> (try omega)
  cases h
theorem isLn_to {l : L} (h : isLn l = true) (h1 : 1 ≤ l.op) (h2 : l.op ≤ 6) : 0 ≤ l.to ∧ l.to ≤ 3 := by
  unfold isLn at h
  rw [if_neg (by omega)] at h
  split at h
  · simp only [Bool.and_eq_true] at h; exact isReg_iff.1 h.1.1
  · split at h
    · simp only [Bool.and_eq_true] at h; exact isReg_iff.1 h.1.1
    · rw [if_pos (by omega)] at h
      simp only [Bool.and_eq_true] at h; exact isReg_iff.1 h.1.1
theorem isLn_a {l : L} (h : isLn l = true) (h1 : 2 ≤ l.op) : 0 ≤ l.a ∧ l.a ≤ 3 := by
  have h7 := isLn_op h
  unfold isLn at h
  rw [if_neg (by omega), if_neg (by omega)] at h
  split at h
  · simp only [Bool.and_eq_true] at h; exact isReg_iff.1 h.1.2
  · split at h
    · simp only [Bool.and_eq_true] at h; exact isReg_iff.1 h.1.2
    · rw [if_pos (by omega)] at h
      simp only [Bool.and_eq_true] at h; exact isReg_iff.1 h.1.2
theorem isLn_b {l : L} (h : isLn l = true) (h1 : 3 ≤ l.op) : 0 ≤ l.b ∧ l.b ≤ 3 := by
  have h7 := isLn_op h
  unfold isLn at h
  rw [if_neg (by omega), if_neg (by omega), if_neg (by omega)] at h
  split at h
  · simp only [Bool.and_eq_true] at h; exact isReg_iff.1 h.2
  · rw [if_pos (by omega)] at h
    simp only [Bool.and_eq_true] at h; exact isReg_iff.1 h.2
theorem isLn_skip {l : L} (h : isLn l = true) (h1 : l.op = 7) : 1 ≤ l.to ∧ l.to ≤ 8 := by
  unfold isLn at h
  rw [if_neg (by omega), if_neg (by omega), if_neg (by omega), if_neg (by omega), if_pos h1] at h
  simp only [Bool.and_eq_true] at h; exact btw_true'.1 h.1.1

theorem btw_eq (n lo hi : Int) : btw n lo hi = (decide (lo ≤ n) && decide (n ≤ hi)) := rfl
theorem btw_true {n lo hi : Int} : btw n lo hi = true ↔ lo ≤ n ∧ n ≤ hi := by simp [btw]
theorem btw_false {n lo hi : Int} (h : n < lo ∨ hi < n) : btw n lo hi = false := by
  simp only [btw, Bool.and_eq_false_iff, decide_eq_false_iff_not]; omega
theorem cutv_low {n : Int} (h : n ≤ -999) : cutv n = -999 := by unfold cutv; omega
theorem cutv_high {n : Int} (h : 999 ≤ n) : cutv n = 999 := by unfold cutv; omega
theorem cutv_mid {n : Int} (h : -999 ≤ n) (h' : n ≤ 999) : cutv n = n := by unfold cutv; omega
theorem cutv_bd (n : Int) : -999 ≤ cutv n ∧ cutv n ≤ 999 := by unfold cutv; omega

end Tinker

/- Plain mathematics, second part: what is valid. -/
set_option linter.unusedVariables false
set_option linter.unusedSimpArgs false
namespace Tinker

/-- What Validate answers. -/
def vp (p : List L) : Int := if 8 < p.length then 3 else if p.all isLn then 0 else 1
/-- Whether all numbers are from lo to hi. -/
def allBtw (s : List Int) (lo hi : Int) : Bool := s.all (btw · lo hi)
/-- What ValidateState answers. -/
def vs (s : List Int) : Int := if s.length = 4 ∧ allBtw s (-999) 999 = true then 0 else 1
/-- The first error of two. -/
def fe (a b : Int) : Int := if a = 0 then b else a
/-- The errors of a program and a state. -/
def vr (p : List L) (s : List Int) : Int := fe (vp p) (vs s)
/-- Strictly ascending. -/
def isSetB : List Int → Bool
  | [] => true
  | [_] => true
  | x :: y :: r => decide (x < y) && isSetB (y :: r)

theorem vp_ok {p : List L} (h : vp p = 0) : p.length ≤ 8 ∧ ∀ l ∈ p, isLn l = true := by
  unfold vp at h
  split at h
  · omega
  · split at h
    · rename_i h1 h2; exact ⟨by omega, fun l hl => List.all_eq_true.1 h2 l hl⟩
    · omega
theorem vp_ok' {p : List L} (h1 : p.length ≤ 8) (h2 : ∀ l ∈ p, isLn l = true) : vp p = 0 := by
  unfold vp; rw [if_neg (by omega), if_pos (List.all_eq_true.2 h2)]
theorem vp_cases (p : List L) : vp p = 0 ∨ vp p = 3 ∨ vp p = 1 := by unfold vp; split <;> (try split) <;> simp
theorem vs_ok {s : List Int} (h : vs s = 0) : s.length = 4 ∧ ∀ n ∈ s, -999 ≤ n ∧ n ≤ 999 := by
  unfold vs at h
  split at h
  · rename_i h1; exact ⟨h1.1, fun n hn => btw_true.1 (List.all_eq_true.1 h1.2 n hn)⟩
  · omega
theorem vs_ok' {s : List Int} (h1 : s.length = 4) (h2 : ∀ n ∈ s, -999 ≤ n ∧ n ≤ 999) : vs s = 0 := by
  unfold vs; rw [if_pos ⟨h1, List.all_eq_true.2 fun n hn => btw_true.2 (h2 n hn)⟩]
theorem vs_cases (s : List Int) : vs s = 0 ∨ vs s = 1 := by unfold vs; split <;> simp
theorem vr_ok {p : List L} {s : List Int} (h : vr p s = 0) : vp p = 0 ∧ vs s = 0 := by
  unfold vr fe at h; split at h
  · exact ⟨by assumption, h⟩
  · contradiction
theorem vr_cases (p : List L) (s : List Int) : vr p s = 0 ∨ vr p s = 3 ∨ vr p s = 1 := by
  unfold vr fe
  rcases vp_cases p with h | h | h <;> rcases vs_cases s with h' | h' <;> simp [h, h']

/-- isSetB by places. -/
theorem isSetB_iff : ∀ (l : List Int), isSetB l = true ↔ ∀ i, i + 1 < l.length → l.getD i 0 < l.getD (i + 1) 0
  | [] => by simp [isSetB]
  | [x] => by simp [isSetB]
  | x :: y :: r => by
    rw [isSetB, Bool.and_eq_true, isSetB_iff (y :: r), decide_eq_true_eq]
    constructor
    · rintro ⟨h, h'⟩ i hi
      cases i with
      | zero => simpa using h
      | succ i => have := h' i (by simpa using hi); simpa using this
    · intro h
      exact ⟨by simpa using h 0 (by simp), fun i hi => by simpa using h (i + 1) (by simpa using hi)⟩

theorem getD_of_get {α : Type} {l : List α} {k : Nat} {x d : α} (h : l[k]? = some x) : l.getD k d = x := by
  rw [List.getD_eq_getElem?_getD, h]; rfl
theorem get_of_lt {α : Type} {l : List α} {k : Nat} (h : k < l.length) : ∃ x, l[k]? = some x := ⟨l[k], List.getElem?_eq_getElem h⟩
theorem take_snoc {α : Type} {l : List α} {k : Nat} {x : α} (h : l[k]? = some x) : l.take (k + 1) = l.take k ++ [x] := by
  obtain ⟨hk, rfl⟩ := List.getElem?_eq_some_iff.1 h
  rw [List.take_succ_eq_append_getElem hk]
theorem mem_of_get {α : Type} {l : List α} {k : Nat} {x : α} (h : l[k]? = some x) : x ∈ l := List.mem_of_getElem? h
theorem all_snoc {α : Type} {l : List α} {k : Nat} {x : α} {f : α → Bool} (h : (l.take k).all f = true) (hx : l[k]? = some x) (hf : f x = true) : (l.take (k + 1)).all f = true := by
  rw [take_snoc hx, List.all_append, h]; simp [hf]
theorem all_not {α : Type} {l : List α} {k : Nat} {x : α} {f : α → Bool} (hx : l[k]? = some x) (hf : f x = false) : l.all f = false := by
  rw [Bool.eq_false_iff]; intro h
  have := List.all_eq_true.1 h x (mem_of_get hx)
  rw [hf] at this; cases this
theorem all_whole {α : Type} {l : List α} {k : Nat} {f : α → Bool} (h : (l.take k).all f = true) (hk : ¬ k < l.length) : l.all f = true := by
  rwa [List.take_of_length_le (by omega)] at h
theorem vp_bad {p : List L} (h8 : p.length ≤ 8) (h : p.all isLn = false) : vp p = 1 := by unfold vp; rw [if_neg (by omega), if_neg (by simp [h])]
theorem vp_good {p : List L} (h8 : p.length ≤ 8) (h : p.all isLn = true) : vp p = 0 := by unfold vp; rw [if_neg (by omega), if_pos h]
theorem vp_large {p : List L} (h8 : 8 < p.length) : vp p = 3 := by unfold vp; rw [if_pos h8]

end Tinker

/- Plain mathematics, third part: how a program runs. -/
set_option linter.unusedVariables false
set_option linter.unusedSimpArgs false
namespace Tinker

def nxt (l : L) (s : List Int) (i : Nat) : Nat := if skips l s then i + 1 + l.to.toNat else i + 1
def stp (l : L) (s : List Int) (o : Option Int) : List Int := if wr l then s.set l.to.toNat (o.getD (cutv (valOf l s))) else s

/-- The lines that are done, from the line i and the state s on, each with the state before it; and the state at the end. f: what lines are forced to write. -/
def tr (p : List L) (f : Nat → Option Int) (i : Nat) (s : List Int) : List (Nat × List Int) × List Int :=
  if h : i < p.length then
    let r := tr p f (nxt p[i] s i) (stp p[i] s (f i))
    ((i, s) :: r.1, r.2)
  else ([], s)
termination_by p.length - i
decreasing_by unfold nxt; split <;> omega

theorem nxt_gt (l : L) (s : List Int) (i : Nat) : i < nxt l s i := by unfold nxt; split <;> omega
theorem tr_lt {p : List L} {f : Nat → Option Int} {i : Nat} {s : List Int} {l : L} (h : p[i]? = some l) :
    tr p f i s = ((i, s) :: (tr p f (nxt l s i) (stp l s (f i))).1, (tr p f (nxt l s i) (stp l s (f i))).2) := by
  obtain ⟨hi, rfl⟩ := List.getElem?_eq_some_iff.1 h
  rw [tr, dif_pos hi]
theorem tr_ge {p : List L} {f : Nat → Option Int} {i : Nat} {s : List Int} (h : p.length ≤ i) : tr p f i s = ([], s) := by
  rw [tr, dif_neg (by omega)]

theorem stp_length (l : L) (s : List Int) (o : Option Int) : (stp l s o).length = s.length := by unfold stp; split <;> simp

/-- All numbers of a state are within the bounds. -/
def okS (s : List Int) : Prop := s.length = 4 ∧ ∀ n ∈ s, -999 ≤ n ∧ n ≤ 999
/-- What forced lines write is within the bounds, and only lines that write are forced. -/
def okF (p : List L) (f : Nat → Option Int) : Prop := ∀ i n, f i = some n → (-999 ≤ n ∧ n ≤ 999) ∧ ∀ l, p[i]? = some l → wr l = true

theorem okS_rg {s : List Int} (h : okS s) (n : Int) : -999 ≤ rg s n ∧ rg s n ≤ 999 := by
  unfold rg
  rw [List.getD_eq_getElem?_getD]
  cases hq : s[n.toNat]? with
  | none => simp
  | some x => simpa using h.2 x (List.mem_of_getElem? hq)
theorem okS_stp {l : L} {s : List Int} {o : Option Int} (h : okS s) (ho : ∀ n, o = some n → -999 ≤ n ∧ n ≤ 999) : okS (stp l s o) := by
  refine ⟨by rw [stp_length, h.1], ?_⟩
  unfold stp
  split
  · intro n hn
    rcases List.mem_or_eq_of_mem_set hn with h1 | h1
    · exact h.2 n h1
    · subst h1
      cases o with
      | none => exact cutv_bd _
      | some x => exact ho x rfl
  · exact h.2

/-- The lines that are done, as bools. -/
def doneL (st : List (Nat × List Int)) : List Bool := st.foldl (fun d x => d.set x.1 true) (List.replicate 8 false)
/-- Four numbers in the place of those from 4 i on. -/
def put4 (d : List Int) (i : Nat) (s : List Int) : List Int := (((d.set (i * 4) (s.getD 0 0)).set (i * 4 + 1) (s.getD 1 0)).set (i * 4 + 2) (s.getD 2 0)).set (i * 4 + 3) (s.getD 3 0)
/-- The states before the lines that are done. -/
def befL (st : List (Nat × List Int)) : List Int := st.foldl (fun d x => put4 d x.1 x.2) (List.replicate 32 0)

theorem doneL_snoc (st : List (Nat × List Int)) (i : Nat) (s : List Int) : doneL (st ++ [(i, s)]) = (doneL st).set i true := by simp [doneL, List.foldl_append]
theorem befL_snoc (st : List (Nat × List Int)) (i : Nat) (s : List Int) : befL (st ++ [(i, s)]) = put4 (befL st) i s := by simp [befL, List.foldl_append]
theorem foldl_set_length : ∀ (st : List (Nat × List Int)) (d : List Bool), (st.foldl (fun d x => d.set x.1 true) d).length = d.length
  | [], d => rfl
  | x :: r, d => by rw [List.foldl_cons, foldl_set_length r]; simp
theorem doneL_length (st : List (Nat × List Int)) : (doneL st).length = 8 := by unfold doneL; rw [foldl_set_length]; simp
theorem put4_length (d : List Int) (i : Nat) (s : List Int) : (put4 d i s).length = d.length := by simp [put4]
theorem foldl_put_length : ∀ (st : List (Nat × List Int)) (d : List Int), (st.foldl (fun d x => put4 d x.1 x.2) d).length = d.length
  | [], d => rfl
  | x :: r, d => by rw [List.foldl_cons, foldl_put_length r, put4_length]
theorem befL_length (st : List (Nat × List Int)) : (befL st).length = 32 := by unfold befL; rw [foldl_put_length]; simp

/-- The lines that are done come in ascending order, from i on, and are lines of the program. -/
theorem tr_from (p : List L) (f : Nat → Option Int) : ∀ (n i : Nat) (s : List Int), p.length - i ≤ n → ∀ x ∈ (tr p f i s).1, i ≤ x.1 ∧ x.1 < p.length
  | 0, i, s, h, x, hx => by rw [tr_ge (by omega)] at hx; simp at hx
  | n + 1, i, s, h, x, hx => by
    rcases Nat.lt_or_ge i p.length with hi | hi
    · obtain ⟨l, hl⟩ := get_of_lt hi
      rw [tr_lt hl] at hx
      rcases List.mem_cons.1 hx with rfl | hx
      · exact ⟨Nat.le_refl _, hi⟩
      · have hg := nxt_gt l s i
        have := tr_from p f n _ _ (by omega) x hx
        exact ⟨by omega, this.2⟩
    · rw [tr_ge hi] at hx; simp at hx
/-- The state at the end, and each state on the way, is within the bounds. -/
theorem tr_ok {p : List L} {f : Nat → Option Int} (hf : okF p f) : ∀ (n i : Nat) (s : List Int), p.length - i ≤ n → okS s → okS (tr p f i s).2 ∧ ∀ x ∈ (tr p f i s).1, okS x.2
  | 0, i, s, h, hs => by rw [tr_ge (by omega)]; exact ⟨hs, by simp⟩
  | n + 1, i, s, h, hs => by
    rcases Nat.lt_or_ge i p.length with hi | hi
    · obtain ⟨l, hl⟩ := get_of_lt hi
      have hg := nxt_gt l s i
      have ih := tr_ok hf n (nxt l s i) (stp l s (f i)) (by omega) (okS_stp hs fun m hm => (hf i m hm).1)
      rw [tr_lt hl]
      refine ⟨ih.1, fun x hx => ?_⟩
      rcases List.mem_cons.1 hx with rfl | hx
      · exact hs
      · exact ih.2 x hx
    · rw [tr_ge hi]; exact ⟨hs, by simp⟩

/-- Nothing is forced. -/
def noF : Nat → Option Int := fun _ => none
theorem okF_no (p : List L) : okF p noF := fun i n h => by cases h
/-- The state at the end of a run. -/
def runE (p : List L) (s : List Int) : List Int := (tr p noF 0 s).2
/-- The steps of a run. -/
def runS (p : List L) (s : List Int) : List (Nat × List Int) := (tr p noF 0 s).1

end Tinker

/- Plain mathematics, fourth part: places. -/
set_option linter.unusedVariables false
set_option linter.unusedSimpArgs false
namespace Tinker

/-- The places below k at which a list is true. -/
def plcTo (l : List Bool) (k : Nat) : List Int := ((List.range k).filter (fun i => l.getD i false)).map Int.ofNat
/-- The places at which a list is true. -/
def plc (l : List Bool) : List Int := plcTo l l.length

theorem plcTo_zero (l : List Bool) : plcTo l 0 = [] := rfl
theorem plcTo_yes {l : List Bool} {k : Nat} (h : l[k]? = some true) : plcTo l (k + 1) = plcTo l k ++ [(k : Int)] := by
  unfold plcTo
  rw [List.range_succ, List.filter_append, List.map_append]
  have e : [k].filter (fun i => l.getD i false) = [k] := by simp [h]
  rw [e]; rfl
theorem plcTo_no {l : List Bool} {k : Nat} (h : l[k]? = some false) : plcTo l (k + 1) = plcTo l k := by
  unfold plcTo
  rw [List.range_succ, List.filter_append, List.map_append]
  have e : [k].filter (fun i => l.getD i false) = [] := by simp [h]
  rw [e]; simp
theorem plcTo_length (l : List Bool) (k : Nat) : (plcTo l k).length ≤ k := by
  unfold plcTo
  rw [List.length_map]
  exact Nat.le_trans (List.length_filter_le _ _) (by simp)

end Tinker

/- Plain mathematics, fifth part: slices. -/
set_option linter.unusedVariables false
set_option linter.unusedSimpArgs false
namespace Tinker

/-- m, and what is true of a below k. -/
def orTo (a m : List Bool) : Nat → List Bool
  | 0 => m
  | k + 1 => if a.getD k false then (orTo a m k).set k true else orTo a m k
theorem orTo_length (a m : List Bool) : ∀ k, (orTo a m k).length = m.length
  | 0 => rfl
  | k + 1 => by rw [orTo]; split <;> simp [orTo_length a m k]
/-- What matters before a line of the slice. -/
def matB (l : L) (m : List Bool) : List Bool := orTo (rd l) (if wr l then m.set l.to.toNat false else m) 4
theorem matB_length (l : L) (m : List Bool) : (matB l m).length = m.length := by
  unfold matB; rw [orTo_length]; split <;> simp

/-- Whether a line is in the slice. -/
def inSl (d m : List Bool) (i : Nat) (l : L) : Bool := d.getD i false && (l.op == 7 || (wr l && m.getD l.to.toNat false))
/-- One step backward: what matters, and what is in the slice. -/
def stSl (d : List Bool) (s : List Bool × List Bool) (x : Nat × L) : List Bool × List Bool :=
  (if inSl d s.1 x.1 x.2 then matB x.2 s.1 else s.1, s.2.set x.1 (inSl d s.1 x.1 x.2))
/-- The lines with their numbers, from the last one to the first one. -/
def backL (p : List L) : List (Nat × L) := ((List.range p.length).map (fun i => (i, p.getD i ⟨0, 0, 0, 0⟩))).reverse
def sl0 (r : Nat) : List Bool × List Bool := ([false, false, false, false].set r true, List.replicate 8 false)
/-- What is in the slice. -/
def sliceB (p : List L) (d : List Bool) (r : Nat) : List Bool := ((backL p).foldl (stSl d) (sl0 r)).2

theorem foldSl_length (d : List Bool) : ∀ (xs : List (Nat × L)) (s : List Bool × List Bool), (xs.foldl (stSl d) s).1.length = s.1.length ∧ (xs.foldl (stSl d) s).2.length = s.2.length
  | [], s => ⟨rfl, rfl⟩
  | x :: r, s => by
    rw [List.foldl_cons]
    have h := foldSl_length d r (stSl d s x)
    rw [h.1, h.2]
    unfold stSl
    refine ⟨?_, by simp⟩
    simp only
    split
    · rw [matB_length]
    · rfl
theorem fold_snoc {α β : Type} (f : β → α → β) (s : β) (pre : List α) (x : α) : (pre ++ [x]).foldl f s = f (pre.foldl f s) x := by simp

end Tinker

/- Plain mathematics, sixth part: what is done in ascending order, the states before, what is forced, slices by steps. -/
set_option linter.unusedVariables false
set_option linter.unusedSimpArgs false
namespace Tinker

/-- Strictly ascending lines. -/
def asc (st : List (Nat × List Int)) : Prop := st.Pairwise (fun x y => x.1 < y.1)

theorem tr_asc (p : List L) (f : Nat → Option Int) : ∀ (n i : Nat) (s : List Int), p.length - i ≤ n → asc (tr p f i s).1
  | 0, i, s, h => by rw [tr_ge (by omega)]; exact List.Pairwise.nil
  | n + 1, i, s, h => by
    rcases Nat.lt_or_ge i p.length with hi | hi
    · obtain ⟨l, hl⟩ := get_of_lt hi
      have hg := nxt_gt l s i
      rw [tr_lt hl]
      refine List.pairwise_cons.2 ⟨fun x hx => ?_, tr_asc p f n _ _ (by omega)⟩
      have := tr_from p f _ _ _ (Nat.le_refl _) x hx
      show i < x.1
      omega
    · rw [tr_ge hi]; exact List.Pairwise.nil

theorem asc_eq : ∀ {a b : List Nat}, a.Pairwise (· < ·) → b.Pairwise (· < ·) → (∀ x, x ∈ a ↔ x ∈ b) → a = b
  | [], [], _, _, _ => rfl
  | [], y :: b, _, _, h => absurd ((h y).2 (by simp)) (by simp)
  | x :: a, [], _, _, h => absurd ((h x).1 (by simp)) (by simp)
  | x :: a, y :: b, ha, hb, h => by
    rw [List.pairwise_cons] at ha hb
    have hxy : x = y := by
      rcases List.mem_cons.1 ((h x).1 (by simp)) with e | e
      · exact e
      · rcases List.mem_cons.1 ((h y).2 (by simp)) with e' | e'
        · exact e'.symm
        · have h1 := hb.1 x e
          have h2 := ha.1 y e'
          omega
    subst hxy
    congr 1
    refine asc_eq ha.2 hb.2 fun z => ⟨fun hz => ?_, fun hz => ?_⟩
    · rcases List.mem_cons.1 ((h z).1 (List.mem_cons_of_mem _ hz)) with e | e
      · subst e; exact absurd (ha.1 _ hz) (by omega)
      · exact e
    · rcases List.mem_cons.1 ((h z).2 (List.mem_cons_of_mem _ hz)) with e | e
      · subst e; exact absurd (hb.1 _ hz) (by omega)
      · exact e

theorem getD_set {α : Type} (l : List α) (i j : Nat) (x d : α) (hi : i < l.length) : (l.set i x).getD j d = if i = j then x else l.getD j d := by
  rw [List.getD_eq_getElem?_getD, List.getElem?_set, List.getD_eq_getElem?_getD]
  split
  · simp [hi]
  · rfl
theorem getD_set_ne {α : Type} (l : List α) {i j : Nat} (x d : α) (h : i ≠ j) : (l.set i x).getD j d = l.getD j d := by
  rw [List.getD_eq_getElem?_getD, List.getElem?_set_ne h, List.getD_eq_getElem?_getD]

theorem foldl_done : ∀ (st : List (Nat × List Int)) (d : List Bool) (i : Nat), i < d.length → (st.foldl (fun d x => d.set x.1 true) d).getD i false = (d.getD i false || st.any (·.1 == i))
  | [], d, i, hi => by simp
  | x :: r, d, i, hi => by
    rw [List.foldl_cons, foldl_done r _ i (by simpa using hi), List.any_cons]
    by_cases h : x.1 = i
    · rw [h, getD_set _ _ _ _ _ hi]; simp
    · have e : (x.1 == i) = false := by simpa using h
      rw [getD_set_ne _ _ _ h, e, Bool.false_or]
theorem rep_get {α : Type} (n i : Nat) (x : α) : (List.replicate n x).getD i x = x := by
  rw [List.getD_eq_getElem?_getD, List.getElem?_replicate]; split <;> rfl
theorem doneL_get (st : List (Nat × List Int)) {i : Nat} (hi : i < 8) : (doneL st).getD i false = st.any (·.1 == i) := by
  unfold doneL
  rw [foldl_done _ _ _ (by simpa using hi), rep_get]
  simp

/-- The lines of steps. -/
def linesOf (st : List (Nat × List Int)) : List Int := st.map (fun x => (x.1 : Int))
theorem plc_done {st : List (Nat × List Int)} (ha : asc st) (h8 : ∀ x ∈ st, x.1 < 8) : plc (doneL st) = linesOf st := by
  unfold plc plcTo linesOf
  rw [doneL_length]
  have e : (List.range 8).filter (fun i => (doneL st).getD i false) = st.map (·.1) := by
    refine asc_eq ?_ ?_ fun x => ?_
    · exact List.Pairwise.filter _ List.pairwise_lt_range
    · exact List.pairwise_map.2 ha
    · rw [List.mem_filter, List.mem_range, List.mem_map]
      constructor
      · rintro ⟨h1, h2⟩
        rw [doneL_get st h1, List.any_eq_true] at h2
        obtain ⟨y, hy, h⟩ := h2
        exact ⟨y, hy, by simpa using h⟩
      · rintro ⟨y, hy, rfl⟩
        exact ⟨h8 y hy, by rw [doneL_get st (h8 y hy), List.any_eq_true]; exact ⟨y, hy, by simp⟩⟩
  rw [e, List.map_map]; rfl

/-- The state before a line, if it is done. -/
def befAt (st : List (Nat × List Int)) (i : Nat) : Option (List Int) := (st.find? (·.1 == i)).map (·.2)
theorem befAt_done (st : List (Nat × List Int)) {i : Nat} (hi : i < 8) : (doneL st).getD i false = (befAt st i).isSome := by
  rw [doneL_get st hi, Bool.eq_iff_iff]; unfold befAt; rw [Option.isSome_map, List.any_eq_true, List.find?_isSome]
theorem befAt_mem {st : List (Nat × List Int)} {i : Nat} {s : List Int} (h : befAt st i = some s) : (i, s) ∈ st := by
  unfold befAt at h
  rw [Option.map_eq_some_iff] at h
  obtain ⟨x, hx, rfl⟩ := h
  have h1 := List.find?_some hx
  have h2 := List.mem_of_find?_eq_some hx
  simp only [beq_iff_eq] at h1
  subst h1
  exact h2

theorem put4_self {d : List Int} {i : Nat} {s : List Int} (h : i * 4 + 4 ≤ d.length) : ∀ j, j < 4 → (put4 d i s).getD (i * 4 + j) 0 = s.getD j 0 := by
  intro j hj
  unfold put4
  have c : j = 0 ∨ j = 1 ∨ j = 2 ∨ j = 3 := by omega
  rcases c with rfl | rfl | rfl | rfl
  · rw [getD_set_ne _ _ _ (by omega), getD_set_ne _ _ _ (by omega), getD_set_ne _ _ _ (by omega), getD_set _ _ _ _ _ (by omega), if_pos (by omega)]
  · rw [getD_set_ne _ _ _ (by omega), getD_set_ne _ _ _ (by omega), getD_set _ _ _ _ _ (by simp; omega), if_pos (by omega)]
  · rw [getD_set_ne _ _ _ (by omega), getD_set _ _ _ _ _ (by simp; omega), if_pos (by omega)]
  · rw [getD_set _ _ _ _ _ (by simp; omega), if_pos (by omega)]
theorem put4_other {d : List Int} {i k : Nat} {s : List Int} (h : i ≠ k) : ∀ j, j < 4 → (put4 d i s).getD (k * 4 + j) 0 = d.getD (k * 4 + j) 0 := by
  intro j hj
  unfold put4
  rw [getD_set_ne _ _ _ (by omega), getD_set_ne _ _ _ (by omega), getD_set_ne _ _ _ (by omega), getD_set_ne _ _ _ (by omega)]
theorem foldl_put_other : ∀ (st : List (Nat × List Int)) (d : List Int) (k : Nat), (∀ x ∈ st, x.1 ≠ k) → ∀ j, j < 4 → (st.foldl (fun d x => put4 d x.1 x.2) d).getD (k * 4 + j) 0 = d.getD (k * 4 + j) 0
  | [], d, k, h, j, hj => rfl
  | x :: r, d, k, h, j, hj => by
    rw [List.foldl_cons, foldl_put_other r _ k (fun y hy => h y (List.mem_cons_of_mem _ hy)) j hj]
    exact put4_other (h x (by simp)) j hj
theorem foldl_put_mem : ∀ (st : List (Nat × List Int)) (d : List Int) (x : Nat × List Int), asc st → x ∈ st → x.1 * 4 + 4 ≤ d.length → ∀ j, j < 4 → (st.foldl (fun d x => put4 d x.1 x.2) d).getD (x.1 * 4 + j) 0 = x.2.getD j 0
  | [], d, x, ha, hx, h, j, hj => by simp at hx
  | y :: r, d, x, ha, hx, h, j, hj => by
    have ha' := List.pairwise_cons.1 ha
    rw [List.foldl_cons]
    rcases List.mem_cons.1 hx with rfl | hx
    · rw [foldl_put_other r _ x.1 (fun z hz => by have := ha'.1 z hz; omega) j hj]
      exact put4_self h j hj
    · exact foldl_put_mem r _ x ha'.2 hx (by rw [put4_length]; exact h) j hj
theorem befL_get {st : List (Nat × List Int)} (ha : asc st) {i : Nat} {s : List Int} (h : befAt st i = some s) (h8 : i < 8) : ∀ j, j < 4 → (befL st).getD (i * 4 + j) 0 = s.getD j 0 := by
  unfold befL
  exact foldl_put_mem st _ (i, s) ha (befAt_mem h) (by simp; omega)

/-- What the lines are forced to write, by two lists, of which the first k count; the last one counts. -/
def fLk (ls vs : List Int) : Nat → Nat → Option Int
  | 0, _ => none
  | k + 1, i => if ls.getD k 0 = (i : Int) then some (vs.getD k 0) else fLk ls vs k i
def fL (ls vs : List Int) : Nat → Option Int := fLk ls vs ls.length
theorem fL_nil : fL [] [] = noF := rfl
theorem fLk_some {ls vs : List Int} {i : Nat} {n : Int} : ∀ {k : Nat}, fLk ls vs k i = some n → ∃ j, j < k ∧ ls.getD j 0 = (i : Int) ∧ vs.getD j 0 = n
  | 0, h => by simp [fLk] at h
  | k + 1, h => by
    unfold fLk at h
    split at h
    · rename_i h1; exact ⟨k, by omega, h1, by simpa using h⟩
    · obtain ⟨j, h1, h2, h3⟩ := fLk_some h; exact ⟨j, by omega, h2, h3⟩

/-- One step backward of the document's answer. -/
def stR (p : List L) (x : Nat × List Int) (s : List Bool × List Bool) : List Bool × List Bool :=
  let l := p.getD x.1 ⟨0, 0, 0, 0⟩
  if l.op == 7 || (wr l && s.1.getD l.to.toNat false) then (matB l s.1, s.2.set x.1 true) else s
def slR0 (n r : Nat) : List Bool × List Bool := ([false, false, false, false].set r true, List.replicate n false)
/-- What is in the slice, by the steps. -/
def sliceR (p : List L) (st : List (Nat × List Int)) (r : Nat) : List Bool := (st.foldr (stR p) (slR0 p.length r)).2

end Tinker

/- Plain mathematics, seventh part: the slice by all lines is the slice by the steps. -/
set_option linter.unusedVariables false
set_option linter.unusedSimpArgs false
namespace Tinker

def atL (p : List L) (i : Nat) : Nat × L := (i, p.getD i ⟨0, 0, 0, 0⟩)
theorem foldrSl_length (d : List Bool) (js : List (Nat × L)) (s : List Bool × List Bool) : (js.foldr (fun x s => stSl d s x) s).2.length = s.2.length := by
  induction js with
  | nil => rfl
  | cons x r ih =>
    rw [List.foldr_cons]
    generalize r.foldr (fun x s => stSl d s x) s = q at ih
    unfold stSl; simpa using ih
theorem foldrSR_length (p : List L) (st : List (Nat × List Int)) (s : List Bool × List Bool) : (st.foldr (stR p) s).2.length = s.2.length := by
  induction st with
  | nil => rfl
  | cons x r ih =>
    rw [List.foldr_cons]
    generalize r.foldr (stR p) s = q at ih
    unfold stR; simp only
    split
    · simpa using ih
    · exact ih

/-- What holds of both ways backward. -/
structure SlRel (p : List L) (st : List (Nat × List Int)) (A B : List Bool × List Bool) : Prop where
  m : A.1 = B.1
  s : ∀ j, A.2.getD j false = B.2.getD j false
  t : ∀ j, B.2.getD j false = true → ∃ x ∈ st, x.1 = j

theorem slRel (p : List L) (d : List Bool) (r : Nat) : ∀ (js : List Nat) (st : List (Nat × List Int)), js.Pairwise (· < ·) → asc st → (∀ x ∈ st, x.1 ∈ js) →
    (∀ j ∈ js, d.getD j false = st.any (·.1 == j)) → (∀ j ∈ js, j < 8 ∧ j < p.length) →
    SlRel p st ((js.map (atL p)).foldr (fun x s => stSl d s x) (sl0 r)) (st.foldr (stR p) (slR0 p.length r))
  | [], st, _, _, hs, _, _ => by
    have : st = [] := List.eq_nil_iff_forall_not_mem.2 fun x hx => by have := hs x hx; simp at this
    subst this
    refine ⟨rfl, fun j => ?_, fun j h => ?_⟩
    · show (List.replicate 8 false).getD j false = (List.replicate p.length false).getD j false
      rw [rep_get, rep_get]
    · have h' : (List.replicate p.length false).getD j false = true := h
      rw [rep_get] at h'; cases h'
  | j :: js, st, hj, ha, hs, hd, hb => by
    rw [List.pairwise_cons] at hj
    obtain ⟨hj8, hjp⟩ := hb j (by simp)
    have key : ∀ st', asc st' → (∀ x ∈ st', x.1 ∈ js) → (∀ k ∈ js, d.getD k false = st'.any (·.1 == k)) →
        SlRel p st' ((js.map (atL p)).foldr (fun x s => stSl d s x) (sl0 r)) (st'.foldr (stR p) (slR0 p.length r)) := fun st' h1 h2 h3 => slRel p d r js st' hj.2 h1 h2 h3 (fun k hk => hb k (List.mem_cons_of_mem _ hk))
    have hlen := foldrSl_length d (js.map (atL p)) (sl0 r)
    have hl8 : ((js.map (atL p)).foldr (fun x s => stSl d s x) (sl0 r)).2.length = 8 := by rw [hlen]; simp [sl0]
    rw [List.map_cons, List.foldr_cons]
    generalize hA : (js.map (atL p)).foldr (fun x s => stSl d s x) (sl0 r) = A at key hl8
    clear hlen hA
    by_cases hany : st.any (·.1 == j) = true
    · match st, ha, hs, hd, hany with
      | [], _, _, _, hany => simp at hany
      | x :: st', ha, hs, hd, hany =>
        have ha' := List.pairwise_cons.1 ha
        have hxj : x.1 = j := by
          rcases List.mem_cons.1 (hs x (by simp)) with e | e
          · exact e
          · have h1 := hj.1 _ e
            rw [List.any_eq_true] at hany
            obtain ⟨y, hy, hyj⟩ := hany
            simp only [beq_iff_eq] at hyj
            rcases List.mem_cons.1 hy with rfl | hy
            · exact hyj
            · have := ha'.1 y hy; omega
        have hr : ∀ y ∈ st', y.1 ∈ js := fun y hy => by
          rcases List.mem_cons.1 (hs y (List.mem_cons_of_mem _ hy)) with e | e
          · have := ha'.1 y hy; omega
          · exact e
        have K := key st' ha'.2 hr fun k hk => by
          rw [hd k (List.mem_cons_of_mem _ hk), List.any_cons]
          have := hj.1 k hk
          have : (x.1 == k) = false := by rw [beq_eq_false_iff_ne]; omega
          rw [this]; rfl
        have hdj : d.getD j false = true := by rw [hd j (by simp)]; exact hany
        rw [List.foldr_cons]
        have hlR := foldrSR_length p st' (slR0 p.length r)
        have hlR' : (st'.foldr (stR p) (slR0 p.length r)).2.length = p.length := by rw [hlR]; simp [slR0]
        generalize st'.foldr (stR p) (slR0 p.length r) = B at K hlR'
        clear hlR
        have hBj : B.2.getD j false = false := by
          cases hq : B.2.getD j false
          · rfl
          · obtain ⟨y, hy, hyj⟩ := K.t j hq
            have := hj.1 _ (hr y hy); omega
        obtain ⟨x1, x2⟩ := x
        simp only at hxj
        subst hxj
        have hin : inSl d A.1 x1 (p.getD x1 ⟨0, 0, 0, 0⟩) = ((p.getD x1 ⟨0, 0, 0, 0⟩).op == 7 || (wr (p.getD x1 ⟨0, 0, 0, 0⟩) && B.1.getD (p.getD x1 ⟨0, 0, 0, 0⟩).to.toNat false)) := by
          unfold inSl; rw [hdj, K.m, Bool.true_and]
        unfold stSl stR atL
        simp only
        rw [hin]
        split
        · refine ⟨by simp only [K.m], fun k => ?_, fun k hk => ?_⟩
          · simp only
            rw [getD_set _ _ _ _ _ (by omega), getD_set _ _ _ _ _ (by omega), K.s]
            rename_i hc
            rw [hc]
          · simp only at hk
            rw [getD_set _ _ _ _ _ (by omega)] at hk
            split at hk
            · rename_i e; exact ⟨(x1, x2), by simp, e⟩
            · obtain ⟨y, hy, e⟩ := K.t k hk; exact ⟨y, List.mem_cons_of_mem _ hy, e⟩
        · rename_i hc
          rw [Bool.not_eq_true] at hc
          refine ⟨K.m, fun k => ?_, fun k hk => ?_⟩
          · simp only
            rw [getD_set _ _ _ _ _ (by omega), hc]
            split
            · rename_i e; subst e; exact hBj.symm
            · exact K.s k
          · obtain ⟨y, hy, e⟩ := K.t k hk; exact ⟨y, List.mem_cons_of_mem _ hy, e⟩
    · rw [Bool.not_eq_true] at hany
      have hne : ∀ y ∈ st, y.1 ≠ j := fun y hy e => by
        have : st.any (·.1 == j) = true := List.any_eq_true.2 ⟨y, hy, by simpa using e⟩
        rw [hany] at this; cases this
      have K := key st ha (fun y hy => (List.mem_cons.1 (hs y hy)).resolve_left (hne y hy)) fun k hk => hd k (List.mem_cons_of_mem _ hk)
      generalize st.foldr (stR p) (slR0 p.length r) = B at K
      have hdj : d.getD j false = false := by rw [hd j (by simp)]; exact hany
      have hin : inSl d A.1 j (p.getD j ⟨0, 0, 0, 0⟩) = false := by unfold inSl; rw [hdj]; rfl
      have hBj : B.2.getD j false = false := by
        cases hq : B.2.getD j false
        · rfl
        · obtain ⟨y, hy, hyj⟩ := K.t j hq
          exact absurd hyj (hne y hy)
      unfold stSl atL
      simp only
      rw [hin]
      refine ⟨K.m, fun k => ?_, K.t⟩
      simp only
      rw [getD_set _ _ _ _ _ (by omega)]
      split
      · rename_i e; subst e; exact hBj.symm
      · exact K.s k

theorem plcTo_ext {a b : List Bool} (h : ∀ j, a.getD j false = b.getD j false) (k : Nat) : plcTo a k = plcTo b k := by
  unfold plcTo; simp only [h]
theorem plcTo_more (a : List Bool) : ∀ (m k : Nat), (∀ j, k ≤ j → a.getD j false = false) → plcTo a (k + m) = plcTo a k
  | 0, k, h => rfl
  | m + 1, k, h => by
    rw [← plcTo_more a m k h]
    unfold plcTo
    rw [← Nat.add_assoc, List.range_succ, List.filter_append, List.map_append]
    have e : [k + m].filter (fun i => a.getD i false) = [] := by
      rw [List.filter_cons, h (k + m) (by omega)]; rfl
    rw [e]; simp
theorem getD_ge {a : List Bool} {j : Nat} (h : a.length ≤ j) : a.getD j false = false := by
  rw [List.getD_eq_getElem?_getD, List.getElem?_eq_none h]; rfl
theorem plc_ext {a b : List Bool} (h : ∀ j, a.getD j false = b.getD j false) : plc a = plc b := by
  unfold plc
  rw [plcTo_ext h]
  rcases Nat.le_total a.length b.length with hl | hl
  · have e := plcTo_more b (b.length - a.length) a.length (fun j hj => by rw [← h]; exact getD_ge hj)
    rw [show a.length + (b.length - a.length) = b.length by omega] at e
    exact e.symm
  · have e := plcTo_more b (a.length - b.length) b.length (fun j hj => getD_ge hj)
    rw [show b.length + (a.length - b.length) = a.length by omega] at e
    exact e

/-- The slice by all lines is that by the steps. -/
theorem slice_eq {p : List L} {st : List (Nat × List Int)} (ha : asc st) (hp : p.length ≤ 8) (hs : ∀ x ∈ st, x.1 < p.length) (r : Nat) : plc (sliceB p (doneL st) r) = plc (sliceR p st r) := by
  refine plc_ext fun j => ?_
  have e : sliceB p (doneL st) r = (((List.range p.length).map (atL p)).foldr (fun x s => stSl (doneL st) s x) (sl0 r)).2 := by
    unfold sliceB backL
    rw [List.foldl_reverse]; rfl
  rw [e]
  refine (slRel p (doneL st) r (List.range p.length) st List.pairwise_lt_range ha (fun x hx => List.mem_range.2 (hs x hx)) (fun j hj => doneL_get st (by have := List.mem_range.1 hj; omega)) (fun j hj => ⟨by have := List.mem_range.1 hj; omega, List.mem_range.1 hj⟩)).s j

end Tinker

/- Plain mathematics, eighth part: what lines outside a slice write does not change its register. -/
set_option linter.unusedVariables false
set_option linter.unusedSimpArgs false
namespace Tinker

theorem orTo_get (a m : List Bool) (k : Nat) (hk : k < m.length) : ∀ n, (orTo a m n).getD k false = (m.getD k false || (decide (k < n) && a.getD k false))
  | 0 => by simp [orTo]
  | n + 1 => by
    unfold orTo
    have hl := orTo_length a m n
    have ih := orTo_get a m k hk n
    split
    · rename_i h
      rw [getD_set_gen, ih]
      by_cases e : n = k
      · subst e; rw [if_pos ⟨rfl, by omega⟩, h]; simp
      · rw [if_neg (fun x => e x.1)]
        have : decide (k < n + 1) = decide (k < n) := by simp; omega
        rw [this]
    · rename_i h
      rw [ih]
      by_cases e : n = k
      · subst e
        rw [Bool.not_eq_true] at h
        rw [h]; simp
      · have : decide (k < n + 1) = decide (k < n) := by simp; omega
        rw [this]
where
  getD_set_gen {l : List Bool} {i j : Nat} : (l.set i true).getD j false = if i = j ∧ i < l.length then true else l.getD j false := by
    by_cases h : i < l.length
    · rw [getD_set _ _ _ _ _ h]; simp [h]
    · rw [List.set_eq_of_length_le (by omega), if_neg (fun e => h e.2)]
theorem matB_get (l : L) (m : List Bool) (hm : m.length = 4) (k : Nat) (hk : k < 4) : (matB l m).getD k false = ((if wr l then m.set l.to.toNat false else m).getD k false || (rd l).getD k false) := by
  unfold matB
  have hl : k < (if wr l then m.set l.to.toNat false else m).length := by
    split
    · rw [List.length_set]; omega
    · omega
  rw [orTo_get _ _ _ hl]
  simp [hk]
theorem rd_a {l : L} (h : isLn l = true) (h2 : 2 ≤ l.op) : (rd l).getD l.a.toNat false = true := by
  have ha := isLn_a h h2
  unfold rd
  simp only
  rw [if_pos h2]
  have : ([false, false, false, false].set l.a.toNat true).getD l.a.toNat false = true := by rw [getD_set _ _ _ _ _ (by simp; omega), if_pos rfl]
  split
  · by_cases e : l.b.toNat = l.a.toNat
    · have hb := isLn_b h (by assumption)
      rw [getD_set _ _ _ _ _ (by simp; omega), if_pos e]
    · rw [getD_set_ne _ _ _ e]; exact this
  · exact this
theorem rd_b {l : L} (h : isLn l = true) (h3 : 3 ≤ l.op) : (rd l).getD l.b.toNat false = true := by
  have hb := isLn_b h h3
  unfold rd
  simp only
  rw [if_pos h3, getD_set _ _ _ _ _ (by split <;> simp <;> omega), if_pos rfl]
/-- Two states agree on what a line reads. -/
def agr (m : List Bool) (s t : List Int) : Prop := ∀ k, m.getD k false = true → s.getD k 0 = t.getD k 0
theorem val_agr {l : L} {s t : List Int} (h : isLn l = true) (hw : wr l = true) (ha : agr (rd l) s t) : Tinker.valOf l s = Tinker.valOf l t := by
  unfold Tinker.valOf
  have h7 := isLn_op h
  have h0 : l.op ≠ 0 := by simp [wr] at hw; exact hw.1
  have ra : 2 ≤ l.op → rg s l.a = rg t l.a := fun h2 => ha _ (rd_a h h2)
  have rb : 3 ≤ l.op → rg s l.b = rg t l.b := fun h3 => ha _ (rd_b h h3)
  by_cases e1 : l.op = 1
  · rw [if_pos e1, if_pos e1]
  · rw [if_neg e1, if_neg e1]
    by_cases e2 : l.op = 2
    · rw [if_pos e2, if_pos e2]; exact ra (by omega)
    · rw [if_neg e2, if_neg e2, ra (by omega), rb (by omega)]
theorem skips_agr {l : L} {s t : List Int} (h : isLn l = true) (ha : agr (rd l) s t) : skips l s = skips l t := by
  unfold skips
  by_cases e : l.op = 7
  · have ra : rg s l.a = rg t l.a := ha _ (rd_a h (by omega))
    have rb : rg s l.b = rg t l.b := ha _ (rd_b h (by omega))
    rw [ra, rb]
  · have : (l.op == 7) = false := by simpa using e
    rw [this]; rfl
theorem skips_no {l : L} {s : List Int} (h : l.op ≠ 7) : skips l s = false := by
  unfold skips
  have : (l.op == 7) = false := by simpa using h
  rw [this]; rfl
theorem wr_op8 {l : L} : wr l = true ↔ l.op ≠ 0 ∧ l.op ≠ 7 := by simp [wr]

theorem outside {p : List L} {f : Nat → Option Int} {r : Nat} (hv : ∀ l ∈ p, isLn l = true) (hr : r < 4) : ∀ (n i : Nat) (s t : List Int), p.length - i ≤ n → s.length = 4 → t.length = 4 →
    agr ((tr p noF i s).1.foldr (stR p) (slR0 p.length r)).1 s t →
    (∀ j, ((tr p noF i s).1.foldr (stR p) (slR0 p.length r)).2.getD j false = true → f j = none) →
    (tr p noF i s).2.getD r 0 = (tr p f i t).2.getD r 0
  | n, i, s, t, hn, hs, ht, ha, hf => by
    rcases Nat.lt_or_ge i p.length with hi | hi
    · match n, hn with
      | 0, hn => omega
      | n + 1, hn =>
      obtain ⟨l, hl⟩ := get_of_lt hi
      have hli := hv l (mem_of_get hl)
      have hpl : p.getD i ⟨0, 0, 0, 0⟩ = l := getD_of_get hl
      have hg := nxt_gt l s i
      have hmem : ∀ x ∈ (tr p noF (nxt l s i) (stp l s (noF i))).1, i < x.1 := fun x hx => by
        have := tr_from p noF _ _ _ (Nat.le_refl _) x hx; omega
      rw [tr_lt hl, List.foldr_cons] at ha hf
      rw [tr_lt hl, tr_lt hl]
      show (tr p noF (nxt l s i) (stp l s (noF i))).2.getD r 0 = (tr p f (nxt l t i) (stp l t (f i))).2.getD r 0
      have ih := outside (f := f) hv hr n (nxt l s i) (stp l s (noF i)) (stp l t (f i)) (by omega) (by rw [stp_length, hs]) (by rw [stp_length, ht])
      have hBl : ∀ st : List (Nat × List Int), ((st.foldr (stR p) (slR0 p.length r)).1).length = 4 := fun st => by
        induction st with
        | nil => simp [slR0]
        | cons x q ihq =>
          rw [List.foldr_cons]; unfold stR; simp only
          split
          · simp only [matB_length]; exact ihq
          · exact ihq
      have hB4 := hBl (tr p noF (nxt l s i) (stp l s (noF i))).1
      have hB2 := foldrSR_length p (tr p noF (nxt l s i) (stp l s (noF i))).1 (slR0 p.length r)
      have hB2' : ((tr p noF (nxt l s i) (stp l s (noF i))).1.foldr (stR p) (slR0 p.length r)).2.length = p.length := by rw [hB2]; simp [slR0]
      generalize hB : (tr p noF (nxt l s i) (stp l s (noF i))).1.foldr (stR p) (slR0 p.length r) = B at ha hf ih hB4 hB2'
      clear hB hBl hB2
      have hrest : ∀ j, B.2.getD j false = true → (stR p (i, s) B).2.getD j false = true := fun j hj => by
        unfold stR; simp only
        split
        · simp only; rw [getD_set _ _ _ _ _ (by omega)]; split
          · rfl
          · exact hj
        · exact hj
      have hf' : ∀ j, B.2.getD j false = true → f j = none := fun j hj => hf j (hrest j hj)
      by_cases hc : (l.op == 7 || (wr l && B.1.getD l.to.toNat false)) = true
      · have e : stR p (i, s) B = (matB l B.1, B.2.set i true) := by unfold stR; simp only [hpl]; rw [if_pos hc]
        rw [e] at ha hf
        have hfi : f i = none := hf i (by simp only; rw [getD_set _ _ _ _ _ (by omega), if_pos rfl])
        have hk4 : ∀ (m : List Bool) k, m.length = 4 → m.getD k false = true → k < 4 := fun m k h1 h2 => by
          rcases Nat.lt_or_ge k 4 with h | h
          · exact h
          · rw [getD_ge (by omega)] at h2; cases h2
        have hrd : agr (rd l) s t := fun k hk => by
          have hk4 := hk4 _ k (rd_length l) hk
          refine ha k ?_
          simp only
          rw [matB_get _ _ hB4 _ hk4, hk]; simp
        have hsk : skips l t = skips l s := (skips_agr hli hrd).symm
        have hnx : nxt l t i = nxt l s i := by unfold nxt; rw [hsk]
        rw [hnx]
        refine ih ?_ hf'
        intro k hk
        have hkk := hk4 _ k hB4 hk
        have hs0 : noF i = none := rfl
        rw [hfi, hs0]
        by_cases hw : wr l = true
        · have hto := isLn_to hli (by have := wr_op8.1 hw; have := isLn_op hli; omega) (by have := wr_op8.1 hw; have := isLn_op hli; omega)
          unfold stp
          rw [hw, if_pos rfl, if_pos rfl, val_agr hli hw hrd, getD_set _ _ _ _ _ (by omega), getD_set _ _ _ _ _ (by omega)]
          split
          · rfl
          · rename_i hne
            refine ha k ?_
            simp only
            rw [matB_get _ _ hB4 _ hkk, if_pos hw, getD_set_ne _ _ _ hne, hk]; rfl
        · unfold stp
          rw [if_neg hw, if_neg hw]
          refine ha k ?_
          simp only
          rw [matB_get _ _ hB4 _ hkk, if_neg hw, hk]; rfl
      · have e : stR p (i, s) B = B := by unfold stR; simp only [hpl]; rw [if_neg hc]
        rw [e] at ha
        rw [Bool.not_eq_true, Bool.or_eq_false_iff] at hc
        have h7 : l.op ≠ 7 := by simpa using hc.1
        have hnx : nxt l t i = nxt l s i := by unfold nxt; rw [skips_no h7, skips_no h7]
        rw [hnx]
        refine ih ?_ hf'
        intro k hk
        by_cases hw : wr l = true
        · have hm : B.1.getD l.to.toNat false = false := by have := hc.2; rw [hw] at this; simpa using this
          have hne : l.to.toNat ≠ k := fun e => by rw [e, hk] at hm; cases hm
          unfold stp
          rw [hw, if_pos rfl, if_pos rfl, getD_set_ne _ _ _ hne, getD_set_ne _ _ _ hne]
          exact ha k hk
        · unfold stp
          rw [if_neg hw, if_neg hw]
          exact ha k hk
    · rw [tr_ge hi] at ha
      rw [tr_ge hi, tr_ge hi]
      refine ha r ?_
      show ([false, false, false, false].set r true).getD r false = true
      rw [getD_set _ _ _ _ _ (by simpa using hr), if_pos rfl]

end Tinker

/- Plain mathematics, eleventh part: a program without what is outside a slice. -/
set_option linter.unusedVariables false
set_option linter.unusedSimpArgs false
namespace Tinker

/-- The line that does nothing. -/
def zL : L := ⟨0, 0, 0, 0⟩
theorem isLn_z : isLn zL = true := by decide
theorem stp_z (s : List Int) (o : Option Int) : stp zL s o = s := by unfold stp; rw [if_neg (by decide)]
theorem nxt_z (s : List Int) (i : Nat) : nxt zL s i = i + 1 := by unfold nxt; rw [skips_no (by decide)]; rfl
/-- What the slice by steps has is among the steps. -/
theorem foldrSR_mem {p : List L} {r : Nat} : ∀ {st : List (Nat × List Int)} {j : Nat}, (st.foldr (stR p) (slR0 p.length r)).2.getD j false = true → ∃ x ∈ st, x.1 = j
  | [], j, h => by
    have h' : (List.replicate p.length false).getD j false = true := h
    rw [rep_get] at h'; cases h'
  | x :: st, j, h => by
    rw [List.foldr_cons] at h
    unfold stR at h
    simp only at h
    split at h
    · simp only at h
      by_cases e : x.1 = j
      · exact ⟨x, by simp, e⟩
      · rw [getD_set_ne _ _ _ e] at h
        obtain ⟨y, hy, e⟩ := foldrSR_mem h
        exact ⟨y, List.mem_cons_of_mem _ hy, e⟩
    · obtain ⟨y, hy, e⟩ := foldrSR_mem h
      exact ⟨y, List.mem_cons_of_mem _ hy, e⟩

/-- A program in which lines that write, and are not in the slice, do nothing. -/
theorem less_run {p q : List L} {r : Nat} {R : Nat → Prop} (hv : ∀ l ∈ p, isLn l = true) (hr : r < 4) (hlen : q.length = p.length)
    (hR : ∀ i l, p[i]? = some l → (R i ∧ wr l = true ∧ q[i]? = some zL) ∨ (¬ R i ∧ q[i]? = some l)) : ∀ (n i : Nat) (s t : List Int), p.length - i ≤ n → s.length = 4 → t.length = 4 →
    agr ((tr p noF i s).1.foldr (stR p) (slR0 p.length r)).1 s t →
    (∀ j, R j → ((tr p noF i s).1.foldr (stR p) (slR0 p.length r)).2.getD j false = false) →
    (tr p noF i s).2.getD r 0 = (tr q noF i t).2.getD r 0 ∧ (tr q noF i t).1.foldr (stR q) (slR0 q.length r) = (tr p noF i s).1.foldr (stR p) (slR0 p.length r)
  | n, i, s, t, hn, hs, ht, ha, hf => by
    rcases Nat.lt_or_ge i p.length with hi | hi
    · match n, hn with
      | 0, hn => omega
      | n + 1, hn =>
      obtain ⟨l, hl⟩ := get_of_lt hi
      have hli := hv l (mem_of_get hl)
      have hpl : p.getD i ⟨0, 0, 0, 0⟩ = l := getD_of_get hl
      have hg := nxt_gt l s i
      rw [tr_lt hl, List.foldr_cons] at ha hf
      have ih := fun t' => less_run hv hr hlen hR n (nxt l s i) (stp l s (noF i)) t' (by omega) (by rw [stp_length, hs])
      have hBl : ∀ st : List (Nat × List Int), ((st.foldr (stR p) (slR0 p.length r)).1).length = 4 := fun st => by
        induction st with
        | nil => simp [slR0]
        | cons x q ihq =>
          rw [List.foldr_cons]; unfold stR; simp only
          split
          · simp only [matB_length]; exact ihq
          · exact ihq
      have hB4 := hBl (tr p noF (nxt l s i) (stp l s (noF i))).1
      have hB2 := foldrSR_length p (tr p noF (nxt l s i) (stp l s (noF i))).1 (slR0 p.length r)
      have hB2' : ((tr p noF (nxt l s i) (stp l s (noF i))).1.foldr (stR p) (slR0 p.length r)).2.length = p.length := by rw [hB2]; simp [slR0]
      rw [tr_lt hl]
      show (tr p noF (nxt l s i) (stp l s (noF i))).2.getD r 0 = (tr q noF i t).2.getD r 0 ∧ (tr q noF i t).1.foldr (stR q) (slR0 q.length r) = stR p (i, s) ((tr p noF (nxt l s i) (stp l s (noF i))).1.foldr (stR p) (slR0 p.length r))
      generalize (tr p noF (nxt l s i) (stp l s (noF i))).1.foldr (stR p) (slR0 p.length r) = B at ha hf ih hB4 hB2' ⊢
      clear hBl hB2
      have hrest : ∀ j, B.2.getD j false = true → (stR p (i, s) B).2.getD j false = true := fun j hj => by
        unfold stR; simp only
        split
        · simp only; rw [getD_set _ _ _ _ _ (by omega)]; split
          · rfl
          · exact hj
        · exact hj
      have hf' : ∀ j, R j → B.2.getD j false = false := fun j hj => by
        cases hq : B.2.getD j false
        · rfl
        · have := hrest j hq
          rw [hf j hj] at this; cases this
      have hs0 : noF i = none := rfl
      rcases hR i l hl with ⟨hRi, hw, hq⟩ | ⟨hRi, hq⟩
      · -- the line does nothing in the other program
        have h7 : l.op ≠ 7 := (wr_op8.1 hw).2
        have hm : B.1.getD l.to.toNat false = false := by
          cases hx : B.1.getD l.to.toNat false
          · rfl
          · have hc : (l.op == 7 || (wr l && B.1.getD l.to.toNat false)) = true := by rw [hw, hx]; simp
            have e : stR p (i, s) B = (matB l B.1, B.2.set i true) := by unfold stR; simp only [hpl]; rw [if_pos hc]
            have := hf i hRi
            rw [e] at this
            simp only at this
            rw [getD_set _ _ _ _ _ (by omega), if_pos rfl] at this
            cases this
        have e : stR p (i, s) B = B := by
          unfold stR; simp only [hpl]
          rw [if_neg (by rw [hw, hm]; simpa using h7)]
        rw [e] at ha ⊢
        have hqz : q.getD i ⟨0, 0, 0, 0⟩ = zL := getD_of_get hq
        rw [tr_lt hq]
        show _ = (tr q noF (nxt zL t i) (stp zL t (noF i))).2.getD r 0 ∧ stR q (i, t) ((tr q noF (nxt zL t i) (stp zL t (noF i))).1.foldr (stR q) (slR0 q.length r)) = B
        have hnx : nxt l s i = i + 1 := by unfold nxt; rw [skips_no h7]; rfl
        rw [nxt_z, stp_z]
        rw [hnx] at ih ⊢
        have ih' := ih t ht ?_ hf'
        · refine ⟨ih'.1, ?_⟩
          rw [ih'.2]
          unfold stR; simp only [hqz]
          rw [if_neg (by rw [show (zL.op == 7) = false from rfl, show wr zL = false from rfl]; simp)]
        · intro k hk
          have hne : l.to.toNat ≠ k := fun e2 => by rw [e2, hk] at hm; cases hm
          unfold stp
          rw [if_pos hw, getD_set_ne _ _ _ hne]
          exact ha k hk
      · -- the same line
        have hql : q.getD i ⟨0, 0, 0, 0⟩ = l := getD_of_get hq
        rw [tr_lt hq]
        show _ = (tr q noF (nxt l t i) (stp l t (noF i))).2.getD r 0 ∧ stR q (i, t) ((tr q noF (nxt l t i) (stp l t (noF i))).1.foldr (stR q) (slR0 q.length r)) = stR p (i, s) B
        have hst : ∀ C, stR q (i, t) C = stR p (i, s) C := fun C => by unfold stR; simp only [hql, hpl]
        have key : nxt l t i = nxt l s i ∧ agr B.1 (stp l s (noF i)) (stp l t (noF i)) := by
          have hk4 : ∀ (m : List Bool) k, m.length = 4 → m.getD k false = true → k < 4 := fun m k h1 h2 => by
            rcases Nat.lt_or_ge k 4 with h | h
            · exact h
            · rw [getD_ge (by omega)] at h2; cases h2
          by_cases hc : (l.op == 7 || (wr l && B.1.getD l.to.toNat false)) = true
          · have e : stR p (i, s) B = (matB l B.1, B.2.set i true) := by unfold stR; simp only [hpl]; rw [if_pos hc]
            rw [e] at ha
            have hrd : agr (rd l) s t := fun k hk => by
              have hk4 := hk4 _ k (rd_length l) hk
              refine ha k ?_
              simp only
              rw [matB_get _ _ hB4 _ hk4, hk]; simp
            have hsk : skips l t = skips l s := (skips_agr hli hrd).symm
            refine ⟨by unfold nxt; rw [hsk], fun k hk => ?_⟩
            have hkk := hk4 _ k hB4 hk
            by_cases hw : wr l = true
            · have hto := isLn_to hli (by have := wr_op8.1 hw; have := isLn_op hli; omega) (by have := wr_op8.1 hw; have := isLn_op hli; omega)
              unfold stp
              rw [hw, if_pos rfl, if_pos rfl, val_agr hli hw hrd, getD_set _ _ _ _ _ (by omega), getD_set _ _ _ _ _ (by omega)]
              split
              · rfl
              · rename_i hne
                refine ha k ?_
                simp only
                rw [matB_get _ _ hB4 _ hkk, if_pos hw, getD_set_ne _ _ _ hne, hk]; rfl
            · unfold stp
              rw [if_neg hw, if_neg hw]
              refine ha k ?_
              simp only
              rw [matB_get _ _ hB4 _ hkk, if_neg hw, hk]; rfl
          · have e : stR p (i, s) B = B := by unfold stR; simp only [hpl]; rw [if_neg hc]
            rw [e] at ha
            rw [Bool.not_eq_true, Bool.or_eq_false_iff] at hc
            have h7 : l.op ≠ 7 := by simpa using hc.1
            refine ⟨by unfold nxt; rw [skips_no h7, skips_no h7], fun k hk => ?_⟩
            by_cases hw : wr l = true
            · have hm : B.1.getD l.to.toNat false = false := by have := hc.2; rw [hw] at this; simpa using this
              have hne : l.to.toNat ≠ k := fun e => by rw [e, hk] at hm; cases hm
              unfold stp
              rw [hw, if_pos rfl, if_pos rfl, getD_set_ne _ _ _ hne, getD_set_ne _ _ _ hne]
              exact ha k hk
            · unfold stp
              rw [if_neg hw, if_neg hw]
              exact ha k hk
        rw [key.1]
        have ih' := ih (stp l t (noF i)) (by rw [stp_length, ht]) key.2 hf'
        exact ⟨ih'.1, by rw [ih'.2, hst]⟩
    · have hqi : q.length ≤ i := by omega
      rw [tr_ge hi] at ha ⊢
      rw [tr_ge hqi]
      refine ⟨ha r ?_, by rw [hlen]; rfl⟩
      show ([false, false, false, false].set r true).getD r false = true
      rw [getD_set _ _ _ _ _ (by simpa using hr), if_pos rfl]

/-- The program without the lines of which R holds. -/
def lessP (p : List L) (R : Nat → Bool) : Nat → List L
  | 0 => p
  | k + 1 => if wr (p.getD k ⟨0, 0, 0, 0⟩) && R k then (lessP p R k).set k zL else lessP p R k
theorem lessP_length (p : List L) (R : Nat → Bool) : ∀ k, (lessP p R k).length = p.length
  | 0 => rfl
  | k + 1 => by rw [lessP]; split <;> simp [lessP_length p R k]
theorem lessP_get (p : List L) (R : Nat → Bool) : ∀ (k i : Nat) (l : L), p[i]? = some l → (lessP p R k)[i]? = some (if i < k ∧ (wr l && R i) = true then zL else l)
  | 0, i, l, h => by rw [if_neg (by omega)]; exact h
  | k + 1, i, l, h => by
    have hi := (List.getElem?_eq_some_iff.1 h).1
    have ih := lessP_get p R k i l h
    rw [lessP]
    by_cases e : k = i
    · subst e
      rw [getD_of_get h]
      split
      · rename_i hc
        rw [List.getElem?_set_self (by rw [lessP_length]; exact hi), if_pos ⟨by omega, hc⟩]
      · rename_i hc
        rw [ih, if_neg (by omega), if_neg (fun x => hc x.2)]
    · have e2 : (if wr (p.getD k ⟨0, 0, 0, 0⟩) && R k then (lessP p R k).set k zL else lessP p R k)[i]? = (lessP p R k)[i]? := by
        split
        · rw [List.getElem?_set_ne e]
        · rfl
      rw [e2, ih]
      by_cases h1 : i < k
      · by_cases h2 : (wr l && R i) = true
        · rw [if_pos ⟨h1, h2⟩, if_pos ⟨by omega, h2⟩]
        · rw [if_neg (fun x => h2 x.2), if_neg (fun x => h2 x.2)]
      · rw [if_neg (fun x => h1 x.1), if_neg (fun x => by omega)]
theorem lessP_valid {p : List L} {R : Nat → Bool} (hv : ∀ l ∈ p, isLn l = true) (k : Nat) : ∀ l ∈ lessP p R k, isLn l = true := fun l hl => by
  obtain ⟨i, hi⟩ := List.mem_iff_getElem?.1 hl
  have hlt : i < p.length := by rw [← lessP_length p R k]; exact (List.getElem?_eq_some_iff.1 hi).1
  obtain ⟨x, hx⟩ := get_of_lt hlt
  rw [lessP_get p R k i x hx] at hi
  injection hi with hi
  subst hi
  split
  · exact isLn_z
  · exact hv x (mem_of_get hx)

end Tinker
